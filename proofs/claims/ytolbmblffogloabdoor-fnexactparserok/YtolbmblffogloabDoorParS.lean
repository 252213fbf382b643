/- spec's ParserOK: what the specification answers. -/
import Derived.Test.YtolbmblffogloabDoorParM
import Derived.Test.YtolbmblffogloabDoorActS
namespace Go.Proofs.YtolbmblffogloabDoor
open Go.ChangeShapes Go.WideShapes Go.ChangeAt Go.RowKit
set_option linter.unusedVariables false
def szOf (t : ByteArray) : Nat := if h : 0 < t.size then leadSz t[0].toNat else 0
def okAt (t : ByteArray) (q : Nat) (hq : q < t.size) : Prop := (if q = 1 then secLo (t[0]'(by omega)).toNat else 128) ≤ t[q].toNat ∧ t[q].toNat ≤ (if q = 1 then secHi (t[0]'(by omega)).toNat else 191)
theorem in_nat (c lo hi : Nat) : inB (c : Int) (lo : Int) (hi : Int) = bIn c lo hi := by unfold inB bIn; rw [Bool.eq_iff_iff]; simp
set_option maxHeartbeats 400000 in
set_option maxRecDepth 100000 in
theorem ssize (t : ByteArray) (ht : t.size ≤ 1048576) (w : World) : Calls Tryd.prog 69 #[.string t] w fun e w' => e = .returned (.int .i64 (szOf t : Int)) ∧ w' = w := by
  by_cases h0 : t.size = 0
  · have HV : Hid ((szOf t : Int) = 0) := by show _ = _; unfold szOf; rw [dif_neg (by omega)]; rfl
    have he : t.toList.isEmpty = true := by rw [ByteArray.toList_eq, List.isEmpty_iff, ← List.length_eq_zero_iff, text_len]; exact h0
    clear h0
    go_enter Tryd.func69, Tryd.ntmps69
    go_wp2_with fail
    go_ret
    exact ⟨ret_int (unhide HV).symm, rfl⟩
  have he : t.toList.isEmpty = false := by
    cases h : t.toList.isEmpty
    · rfl
    · rw [ByteArray.toList_eq, List.isEmpty_iff, ← List.length_eq_zero_iff, text_len] at h; exact absurd h h0
  have hp : (0 : Int) < (t.size : Int) := by omega
  have hp2 : 0 < t.size := by omega
  have hb : (t[0].toNat : Int) ≤ 255 := by have := t[0].toNat_lt; omega
  clear h0
  by_cases c1 : t[0].toNat < 128
  · have HV : Hid ((szOf t : Int) = 1) := by show _ = _; unfold szOf; rw [dif_pos hp2]; unfold leadSz; rw [if_pos c1]; rfl
    have c1' : (t[0].toNat : Int) < 128 := by omega
    go_enter Tryd.func69, Tryd.ntmps69
    go_wp2_with (go_at_call 43; refine (sin _ _ _ _).mono ?_; rintro e w2 ⟨rfl, hw⟩; subst w2; first | rw [f1] | rw [f2] | rw [f3])
    go_ret
    exact ⟨ret_int (unhide HV).symm, rfl⟩
  by_cases c2 : 194 ≤ t[0].toNat ∧ t[0].toNat ≤ 223
  · have HV : Hid ((szOf t : Int) = 2) := by show _ = _; unfold szOf; rw [dif_pos hp2]; unfold leadSz; rw [if_neg c1, if_pos c2]; rfl
    have c1' : ¬ (t[0].toNat : Int) < 128 := by omega
    have f1 : inB (t[0].toNat : Int) 194 223 = true := in_yes (by omega)
    go_enter Tryd.func69, Tryd.ntmps69
    go_wp2_with (go_at_call 43; refine (sin _ _ _ _).mono ?_; rintro e w2 ⟨rfl, hw⟩; subst w2; first | rw [f1] | rw [f2] | rw [f3])
    go_ret
    exact ⟨ret_int (unhide HV).symm, rfl⟩
  by_cases c3 : 224 ≤ t[0].toNat ∧ t[0].toNat ≤ 239
  · have HV : Hid ((szOf t : Int) = 3) := by show _ = _; unfold szOf; rw [dif_pos hp2]; unfold leadSz; rw [if_neg c1, if_neg c2, if_pos c3]; rfl
    have c1' : ¬ (t[0].toNat : Int) < 128 := by omega
    have f1 : inB (t[0].toNat : Int) 194 223 = false := in_no (by omega)
    have f2 : inB (t[0].toNat : Int) 224 239 = true := in_yes (by omega)
    go_enter Tryd.func69, Tryd.ntmps69
    go_wp2_with (go_at_call 43; refine (sin _ _ _ _).mono ?_; rintro e w2 ⟨rfl, hw⟩; subst w2; first | rw [f1] | rw [f2] | rw [f3])
    go_ret
    exact ⟨ret_int (unhide HV).symm, rfl⟩
  by_cases c4 : 240 ≤ t[0].toNat ∧ t[0].toNat ≤ 244
  · have HV : Hid ((szOf t : Int) = 4) := by show _ = _; unfold szOf; rw [dif_pos hp2]; unfold leadSz; rw [if_neg c1, if_neg c2, if_neg c3, if_pos c4]; rfl
    have c1' : ¬ (t[0].toNat : Int) < 128 := by omega
    have f1 : inB (t[0].toNat : Int) 194 223 = false := in_no (by omega)
    have f2 : inB (t[0].toNat : Int) 224 239 = false := in_no (by omega)
    have f3 : inB (t[0].toNat : Int) 240 244 = true := in_yes (by omega)
    go_enter Tryd.func69, Tryd.ntmps69
    go_wp2_with (go_at_call 43; refine (sin _ _ _ _).mono ?_; rintro e w2 ⟨rfl, hw⟩; subst w2; first | rw [f1] | rw [f2] | rw [f3])
    go_ret
    exact ⟨ret_int (unhide HV).symm, rfl⟩
  have HV : Hid ((szOf t : Int) = 0) := by show _ = _; unfold szOf; rw [dif_pos hp2]; unfold leadSz; rw [if_neg c1, if_neg c2, if_neg c3, if_neg c4]; rfl
  have c1' : ¬ (t[0].toNat : Int) < 128 := by omega
  have f1 : inB (t[0].toNat : Int) 194 223 = false := in_no (by omega)
  have f2 : inB (t[0].toNat : Int) 224 239 = false := in_no (by omega)
  have f3 : inB (t[0].toNat : Int) 240 244 = false := in_no (by omega)
  go_enter Tryd.func69, Tryd.ntmps69
  go_wp2_with (go_at_call 43; refine (sin _ _ _ _).mono ?_; rintro e w2 ⟨rfl, hw⟩; subst w2; first | rw [f1] | rw [f2] | rw [f3])
  go_ret
  exact ⟨ret_int (unhide HV).symm, rfl⟩
theorem in_no' {n a b : Int} (h : inB n a b = false) : ¬ (a ≤ n ∧ n ≤ b) := of_decide_eq_false h
theorem in_yes' {n a b : Int} (h : inB n a b = true) : a ≤ n ∧ n ≤ b := of_decide_eq_true h
theorem beg_fits {t : ByteArray} (h1 : 0 < t.size) (hs : t.size < leadSz t[0].toNat) : (begB t.data.toList = true ↔ ∀ q (h : q < t.size), 1 ≤ q → okAt t q h) := by
  have h4 := leadSz_le t[0].toNat
  by_cases e1 : t.size = 1
  · rw [list1 e1, begB_1]
    constructor
    · intro _ q h hq; omega
    · intro _; exact decide_eq_true (by omega)
  by_cases e2 : t.size = 2
  · rw [list2 e2, begB_2, decide_eq_true (by omega), Bool.true_and]
    unfold bIn
    rw [decide_eq_true_iff]
    constructor
    · intro h q hq h2
      obtain rfl : q = 1 := by omega
      unfold okAt; rw [if_pos rfl, if_pos rfl]; exact h
    · intro h
      have := h 1 (by omega) (by omega)
      unfold okAt at this; rw [if_pos rfl, if_pos rfl] at this; exact this
  have e3 : t.size = 3 := by omega
  rw [list3 e3, begB_3, decide_eq_true (by omega), Bool.true_and, Bool.and_eq_true]
  unfold bIn
  rw [decide_eq_true_iff, decide_eq_true_iff]
  constructor
  · intro h q hq h2
    obtain rfl | rfl : q = 1 ∨ q = 2 := by omega
    · unfold okAt; rw [if_pos rfl, if_pos rfl]; exact h.1
    · unfold okAt; rw [if_neg (by decide), if_neg (by decide)]; exact h.2
  · intro h
    have g1 := h 1 (by omega) (by omega)
    have g2 := h 2 (by omega) (by omega)
    unfold okAt at g1 g2
    rw [if_pos rfl, if_pos rfl] at g1
    rw [if_neg (by decide), if_neg (by decide)] at g2
    exact ⟨g1, g2⟩
set_option maxHeartbeats 400000 in
set_option maxRecDepth 100000 in
theorem sfits (t : ByteArray) (h1 : 0 < t.size) (ht : t.size ≤ 1048576) (hs : t.size < leadSz t[0].toNat) (w : World) : Calls Tryd.prog 70 #[.string t] w fun e w' => e = .returned (.bool (begB t.data.toList)) ∧ w' = w := by
  have HBF := hide (beg_fits h1 hs)
  clear hs
  have hb0 : (t[0].toNat : Int) ≤ 255 := by have := t[0].toNat_lt; omega
  have hp : (0 : Int) < (t.size : Int) := by omega
  go_enter Tryd.func70, Tryd.ntmps70
  go_wp2_with fail
  go_loop [3] (fun i => ∃ k : Nat, 1 ≤ k ∧ k ≤ t.size ∧ i = .int .i64 k ∧ Hid (∀ q (h : q < t.size), 1 ≤ q → q < k → okAt t q h)) (fun i => t.size - (intOf i).toNat)
  case atStart => exact ⟨1, by omega, by omega, rfl, fun q _ h h2 => absurd h2 (by omega)⟩
  case round =>
    obtain ⟨k, hk1, hk, rfl, HF⟩ := hrel
    have HX : Hid True := trivial
    by_cases hlt : k < t.size
    · have hlt' : (k : Int) < (t.size : Int) := by omega
      have hb : (t[k].toNat : Int) ≤ 255 := by have := t[k].toNat_lt; omega
      by_cases e1 : k = 1
      · have ek : ((k : Int) == 1) = true := by rw [beq_iff_eq]; omega
        by_cases a0 : t[0].toNat = 224
        · skip
          have g0 : ((t[0].toNat : Int) == 224) = true := by rw [beq_iff_eq]; omega
          have hl : secLo t[0].toNat = 160 := by unfold secLo; simp [a0]
          have hh : secHi t[0].toNat = 191 := by unfold secHi; simp [a0]
          have HLH := hide (And.intro hl hh)
          have HE1 := hide e1
          have HA := hide a0
          clear hl hh e1 a0
          cases hi : inB (t[k].toNat : Int) 160 191
          · have HN : ¬ okAt t k hlt := fun h => by
              have h2 := in_no' hi; unfold okAt at h; rw [if_pos (unhide HE1), if_pos (unhide HE1), (unhide HLH).1, (unhide HLH).2] at h; omega
            have HV : Hid (begB t.data.toList = false) := by
              cases h : begB t.data.toList
              · exact rfl
              · exact absurd ((unhide HBF).1 h k hlt hk1) HN
            clear HN
            clear HF HX
            go_wp2_with (go_at_call 43; refine (sin _ _ _ _).mono ?_; rintro e w2 ⟨rfl, hw⟩; subst w2; rw [hi])
            go_ret
            exact ⟨ret_bool (unhide HV).symm, rfl⟩
          · have HF2 : Hid (∀ q (h : q < t.size), 1 ≤ q → q < k + 1 → okAt t q h) := fun q h hq1 hq => by
              by_cases e : q = k
              · subst e
                have h2 := in_yes' hi; unfold okAt; rw [if_pos (unhide HE1), if_pos (unhide HE1), (unhide HLH).1, (unhide HLH).2]; omega
              · exact unhide HF q h hq1 (by omega)
            clear HF HX
            go_wp2_with (go_at_call 43; refine (sin _ _ _ _).mono ?_; rintro e w2 ⟨rfl, hw⟩; subst w2; rw [hi])
            go_round
            case rel => exact ⟨k + 1, by omega, by omega, by go_num, HF2⟩
            case measure => simp [intOf]; omega
        by_cases a1 : t[0].toNat = 237
        · skip
          have g0 : ((t[0].toNat : Int) == 224) = false := by rw [beq_eq_false_iff_ne]; omega
          have g1 : ((t[0].toNat : Int) == 237) = true := by rw [beq_iff_eq]; omega
          have hl : secLo t[0].toNat = 128 := by unfold secLo; simp [a1]
          have hh : secHi t[0].toNat = 159 := by unfold secHi; simp [a1]
          have HLH := hide (And.intro hl hh)
          have HE1 := hide e1
          have HA := hide a1
          clear hl hh e1 a1
          cases hi : inB (t[k].toNat : Int) 128 159
          · have HN : ¬ okAt t k hlt := fun h => by
              have h2 := in_no' hi; unfold okAt at h; rw [if_pos (unhide HE1), if_pos (unhide HE1), (unhide HLH).1, (unhide HLH).2] at h; omega
            have HV : Hid (begB t.data.toList = false) := by
              cases h : begB t.data.toList
              · exact rfl
              · exact absurd ((unhide HBF).1 h k hlt hk1) HN
            clear HN
            clear HF HX
            go_wp2_with (go_at_call 43; refine (sin _ _ _ _).mono ?_; rintro e w2 ⟨rfl, hw⟩; subst w2; rw [hi])
            go_ret
            exact ⟨ret_bool (unhide HV).symm, rfl⟩
          · have HF2 : Hid (∀ q (h : q < t.size), 1 ≤ q → q < k + 1 → okAt t q h) := fun q h hq1 hq => by
              by_cases e : q = k
              · subst e
                have h2 := in_yes' hi; unfold okAt; rw [if_pos (unhide HE1), if_pos (unhide HE1), (unhide HLH).1, (unhide HLH).2]; omega
              · exact unhide HF q h hq1 (by omega)
            clear HF HX
            go_wp2_with (go_at_call 43; refine (sin _ _ _ _).mono ?_; rintro e w2 ⟨rfl, hw⟩; subst w2; rw [hi])
            go_round
            case rel => exact ⟨k + 1, by omega, by omega, by go_num, HF2⟩
            case measure => simp [intOf]; omega
        by_cases a2 : t[0].toNat = 240
        · skip
          have g0 : ((t[0].toNat : Int) == 224) = false := by rw [beq_eq_false_iff_ne]; omega
          have g1 : ((t[0].toNat : Int) == 237) = false := by rw [beq_eq_false_iff_ne]; omega
          have g2 : ((t[0].toNat : Int) == 240) = true := by rw [beq_iff_eq]; omega
          have hl : secLo t[0].toNat = 144 := by unfold secLo; simp [a2]
          have hh : secHi t[0].toNat = 191 := by unfold secHi; simp [a2]
          have HLH := hide (And.intro hl hh)
          have HE1 := hide e1
          have HA := hide a2
          clear hl hh e1 a2
          cases hi : inB (t[k].toNat : Int) 144 191
          · have HN : ¬ okAt t k hlt := fun h => by
              have h2 := in_no' hi; unfold okAt at h; rw [if_pos (unhide HE1), if_pos (unhide HE1), (unhide HLH).1, (unhide HLH).2] at h; omega
            have HV : Hid (begB t.data.toList = false) := by
              cases h : begB t.data.toList
              · exact rfl
              · exact absurd ((unhide HBF).1 h k hlt hk1) HN
            clear HN
            clear HF HX
            go_wp2_with (go_at_call 43; refine (sin _ _ _ _).mono ?_; rintro e w2 ⟨rfl, hw⟩; subst w2; rw [hi])
            go_ret
            exact ⟨ret_bool (unhide HV).symm, rfl⟩
          · have HF2 : Hid (∀ q (h : q < t.size), 1 ≤ q → q < k + 1 → okAt t q h) := fun q h hq1 hq => by
              by_cases e : q = k
              · subst e
                have h2 := in_yes' hi; unfold okAt; rw [if_pos (unhide HE1), if_pos (unhide HE1), (unhide HLH).1, (unhide HLH).2]; omega
              · exact unhide HF q h hq1 (by omega)
            clear HF HX
            go_wp2_with (go_at_call 43; refine (sin _ _ _ _).mono ?_; rintro e w2 ⟨rfl, hw⟩; subst w2; rw [hi])
            go_round
            case rel => exact ⟨k + 1, by omega, by omega, by go_num, HF2⟩
            case measure => simp [intOf]; omega
        by_cases a3 : t[0].toNat = 244
        · skip
          have g0 : ((t[0].toNat : Int) == 224) = false := by rw [beq_eq_false_iff_ne]; omega
          have g1 : ((t[0].toNat : Int) == 237) = false := by rw [beq_eq_false_iff_ne]; omega
          have g2 : ((t[0].toNat : Int) == 240) = false := by rw [beq_eq_false_iff_ne]; omega
          have g3 : ((t[0].toNat : Int) == 244) = true := by rw [beq_iff_eq]; omega
          have hl : secLo t[0].toNat = 128 := by unfold secLo; simp [a3]
          have hh : secHi t[0].toNat = 143 := by unfold secHi; simp [a3]
          have HLH := hide (And.intro hl hh)
          have HE1 := hide e1
          have HA := hide a3
          clear hl hh e1 a3
          cases hi : inB (t[k].toNat : Int) 128 143
          · have HN : ¬ okAt t k hlt := fun h => by
              have h2 := in_no' hi; unfold okAt at h; rw [if_pos (unhide HE1), if_pos (unhide HE1), (unhide HLH).1, (unhide HLH).2] at h; omega
            have HV : Hid (begB t.data.toList = false) := by
              cases h : begB t.data.toList
              · exact rfl
              · exact absurd ((unhide HBF).1 h k hlt hk1) HN
            clear HN
            clear HF HX
            go_wp2_with (go_at_call 43; refine (sin _ _ _ _).mono ?_; rintro e w2 ⟨rfl, hw⟩; subst w2; rw [hi])
            go_ret
            exact ⟨ret_bool (unhide HV).symm, rfl⟩
          · have HF2 : Hid (∀ q (h : q < t.size), 1 ≤ q → q < k + 1 → okAt t q h) := fun q h hq1 hq => by
              by_cases e : q = k
              · subst e
                have h2 := in_yes' hi; unfold okAt; rw [if_pos (unhide HE1), if_pos (unhide HE1), (unhide HLH).1, (unhide HLH).2]; omega
              · exact unhide HF q h hq1 (by omega)
            clear HF HX
            go_wp2_with (go_at_call 43; refine (sin _ _ _ _).mono ?_; rintro e w2 ⟨rfl, hw⟩; subst w2; rw [hi])
            go_round
            case rel => exact ⟨k + 1, by omega, by omega, by go_num, HF2⟩
            case measure => simp [intOf]; omega
        have g0 : ((t[0].toNat : Int) == 224) = false := by rw [beq_eq_false_iff_ne]; omega
        have g1 : ((t[0].toNat : Int) == 237) = false := by rw [beq_eq_false_iff_ne]; omega
        have g2 : ((t[0].toNat : Int) == 240) = false := by rw [beq_eq_false_iff_ne]; omega
        have g3 : ((t[0].toNat : Int) == 244) = false := by rw [beq_eq_false_iff_ne]; omega
        have hl : secLo t[0].toNat = 128 := by unfold secLo; rw [if_neg a0, if_neg a2]
        have hh : secHi t[0].toNat = 191 := by unfold secHi; rw [if_neg a1, if_neg a3]
        have HLH := hide (And.intro hl hh)
        have HE1 := hide e1
        clear hl hh e1 a0 a1 a2 a3
        cases hi : inB (t[k].toNat : Int) 128 191
        · have HN : ¬ okAt t k hlt := fun h => by
            have h2 := in_no' hi; unfold okAt at h; rw [if_pos (unhide HE1), if_pos (unhide HE1), (unhide HLH).1, (unhide HLH).2] at h; omega
          have HV : Hid (begB t.data.toList = false) := by
            cases h : begB t.data.toList
            · exact rfl
            · exact absurd ((unhide HBF).1 h k hlt hk1) HN
          clear HN
          clear HF HX
          go_wp2_with (go_at_call 43; refine (sin _ _ _ _).mono ?_; rintro e w2 ⟨rfl, hw⟩; subst w2; rw [hi])
          go_ret
          exact ⟨ret_bool (unhide HV).symm, rfl⟩
        · have HF2 : Hid (∀ q (h : q < t.size), 1 ≤ q → q < k + 1 → okAt t q h) := fun q h hq1 hq => by
            by_cases e : q = k
            · subst e
              have h2 := in_yes' hi; unfold okAt; rw [if_pos (unhide HE1), if_pos (unhide HE1), (unhide HLH).1, (unhide HLH).2]; omega
            · exact unhide HF q h hq1 (by omega)
          clear HF HX
          go_wp2_with (go_at_call 43; refine (sin _ _ _ _).mono ?_; rintro e w2 ⟨rfl, hw⟩; subst w2; rw [hi])
          go_round
          case rel => exact ⟨k + 1, by omega, by omega, by go_num, HF2⟩
          case measure => simp [intOf]; omega
      · skip
        have ek : ((k : Int) == 1) = false := by rw [beq_eq_false_iff_ne]; omega
        have HE1 := hide e1
        clear e1
        cases hi : inB (t[k].toNat : Int) 128 191
        · have HN : ¬ okAt t k hlt := fun h => by
            have h2 := in_no' hi; unfold okAt at h; rw [if_neg (unhide HE1), if_neg (unhide HE1)] at h; omega
          have HV : Hid (begB t.data.toList = false) := by
            cases h : begB t.data.toList
            · exact rfl
            · exact absurd ((unhide HBF).1 h k hlt hk1) HN
          clear HN
          clear HF HX
          go_wp2_with (go_at_call 43; refine (sin _ _ _ _).mono ?_; rintro e w2 ⟨rfl, hw⟩; subst w2; rw [hi])
          go_ret
          exact ⟨ret_bool (unhide HV).symm, rfl⟩
        · have HF2 : Hid (∀ q (h : q < t.size), 1 ≤ q → q < k + 1 → okAt t q h) := fun q h hq1 hq => by
            by_cases e : q = k
            · subst e
              have h2 := in_yes' hi; unfold okAt; rw [if_neg (unhide HE1), if_neg (unhide HE1)]; omega
            · exact unhide HF q h hq1 (by omega)
          clear HF HX
          go_wp2_with (go_at_call 43; refine (sin _ _ _ _).mono ?_; rintro e w2 ⟨rfl, hw⟩; subst w2; rw [hi])
          go_round
          case rel => exact ⟨k + 1, by omega, by omega, by go_num, HF2⟩
          case measure => simp [intOf]; omega
    · have HV : Hid (begB t.data.toList = true) := (unhide HBF).2 fun q h h1 => unhide HF q h h1 (by omega)
      clear HF
      go_wp2_with fail
      go_ret
      exact ⟨ret_bool (unhide HV).symm, rfl⟩
set_option maxHeartbeats 400000 in
set_option maxRecDepth 100000 in
theorem sbegun (t : ByteArray) (ht : t.size ≤ 1048576) (w : World) : Calls Tryd.prog 44 #[.string t] w fun e w' => e = .returned (.bool (begB t.data.toList)) ∧ w' = w := by
  by_cases h0 : t.size = 0
  · have HV : Hid (begB t.data.toList = false) := beg_none h0
    have hz : (szOf t : Int) = 0 := by unfold szOf; rw [dif_neg (by omega)]; rfl
    clear h0
    go_enter Tryd.func44, Tryd.ntmps44
    go_wp2_with (go_at_call 69; refine (ssize t ht _).mono ?_; rintro e w2 ⟨rfl, hw⟩; subst w2; rw [hz])
    go_ret
    exact ⟨ret_bool (unhide HV).symm, rfl⟩
  have h1 : 0 < t.size := by omega
  have hz : szOf t = leadSz t[0].toNat := by unfold szOf; rw [dif_pos h1]
  obtain ⟨n, hn⟩ : ∃ n, n = leadSz t[0].toNat := ⟨_, rfl⟩
  rw [← hn] at hz
  have hn4 : n ≤ 4 := by rw [hn]; exact leadSz_le _
  have HZ := hide hz
  clear hz h0
  by_cases hlt : t.size < n
  · have HB : Hid (t.size < leadSz t[0].toNat) := by show _ < _; rw [← hn]; exact hlt
    have H1 := hide h1
    have hlt' : (t.size : Int) < (n : Int) := by omega
    have hn1 : (1 : Int) < (n : Int) := by omega
    clear hn
    go_enter Tryd.func44, Tryd.ntmps44
    go_wp2_with (first | (go_at_call 69; refine (ssize t ht _).mono ?_; rintro e w2 ⟨rfl, hw⟩; subst w2; rw [unhide HZ]) | (go_at_call 70; refine (sfits t (unhide H1) ht (unhide HB) _).mono ?_; rintro e w3 ⟨rfl, hw⟩; subst w3))
    go_ret
    exact ⟨rfl, rfl⟩
  · have HV : Hid (begB t.data.toList = false) := beg_full h1 (by omega)
    have hlt' : ¬ (t.size : Int) < (n : Int) := by omega
    clear hn h1
    by_cases hn1 : (1 : Int) < (n : Int)
    all_goals
      go_enter Tryd.func44, Tryd.ntmps44
      go_wp2_with (go_at_call 69; refine (ssize t ht _).mono ?_; rintro e w2 ⟨rfl, hw⟩; subst w2; rw [unhide HZ])
      go_ret
      exact ⟨ret_bool (unhide HV).symm, rfl⟩
theorem par_args {st : Int} {l : List Int} {pr : Bool} {t u : List UInt8} (h : argsB l = false) (h2 : bareB pr l = false) : parB st l pr t u = false := by
  unfold parB; rw [h, h2]; simp
theorem par_title {st : Int} {l : List Int} {pr : Bool} {t u : List UInt8} (h : titleB t = false) : parB st l pr t u = false := by
  unfold parB; rw [h]; simp
theorem args_long {l : List Int} (h : 8 < l.length) : argsB l = false := by unfold argsB; rw [decide_eq_false (by omega)]; rfl
theorem sparB_0 (l : List Int) (pr : Bool) (t u : List UInt8) : parB 0 l pr t u = (bareB pr l && (emptyB u && (titleB t && (false || emptyB t)))) := rfl
theorem sparB_1 (l : List Int) (pr : Bool) (t u : List UInt8) : parB 1 l pr t u = (bareB pr l && (emptyB u && (titleB t && (false || emptyB t)))) := rfl
theorem sparB_2 (l : List Int) (pr : Bool) (t u : List UInt8) : parB 2 l pr t u = (argsB l && (emptyB u && (titleB t && (false || emptyB t)))) := rfl
theorem sparB_3 (l : List Int) (pr : Bool) (t u : List UInt8) : parB 3 l pr t u = (bareB pr l && (emptyB u && (titleB t && (false || emptyB t)))) := rfl
theorem sparB_4 (l : List Int) (pr : Bool) (t u : List UInt8) : parB 4 l pr t u = (bareB pr l && (emptyB u && (titleB t && (true || emptyB t)))) := rfl
theorem sparB_5 (l : List Int) (pr : Bool) (t u : List UInt8) : parB 5 l pr t u = (bareB pr l && (emptyB u && (titleB t && (true || emptyB t)))) := rfl
theorem sparB_6 (l : List Int) (pr : Bool) (t u : List UInt8) : parB 6 l pr t u = (bareB pr l && (begB u && (titleB t && (false || emptyB t)))) := rfl
set_option maxHeartbeats 400000 in
set_option maxRecDepth 100000 in
theorem spar_out (st : Int) (ho : inB st 0 6 = false) (pr : Bool) (a : Option Addr) (len cap : Nat) (l : List Int) (t u : ByteArray) (hlen : l.length = len) (hl : l.length ≤ 1048576) (ht : t.size ≤ 1048576) (hu : u.size ≤ 1048576) (w : World) (hr : RowV w a (cI l)) :
    Calls Tryd.prog 18 #[.agg #[.int .i64 st, .slice a len cap, .bool pr, .string t, .string u]] w fun e w' => e = .returned (.bool (parB st l pr t.data.toList u.data.toList)) ∧ Below w.heap.size w w' := by
  have HV : Hid (parB st l pr t.data.toList u.data.toList = false) := by show _ = _; unfold parB; rw [ho]; rfl
  clear hr hlen hl
  go_enter Tryd.func18, Tryd.ntmps18
  go_wp2_with (go_at_call 43; refine (sin _ _ _ _).mono ?_; rintro e w2 ⟨rfl, hw⟩; subst w2; rw [ho])
  go_ret
  exact ⟨ret_bool (unhide HV).symm, (Below.refl _ _).alloc (Nat.le_refl _) _⟩
set_option maxHeartbeats 400000 in
set_option maxRecDepth 100000 in
theorem spar_0 (pr : Bool) (a : Option Addr) (len cap : Nat) (l : List Int) (t u : ByteArray) (hlen : l.length = len) (hl : l.length ≤ 1048576) (ht : t.size ≤ 1048576) (hu : u.size ≤ 1048576) (w : World) (hr : RowV w a (cI l)) :
    Calls Tryd.prog 18 #[.agg #[.int .i64 0, .slice a len cap, .bool pr, .string t, .string u]] w fun e w' => e = .returned (.bool (parB 0 l pr t.data.toList u.data.toList)) ∧ Below w.heap.size w w' := by
  have ho : inB 0 0 6 = true := by decide
  have hle : len ≤ 1048576 := by omega
  by_cases h8 : 8 < len
  · have HV : Hid (parB 0 l pr t.data.toList u.data.toList = false) := par_args (args_long (by omega)) (bare_not (by omega))
    have h8' : (8 : Int) < (len : Int) := by omega
    clear hr hlen hl
    go_enter Tryd.func18, Tryd.ntmps18
    go_wp2_with (go_at_call 43; refine (sin _ _ _ _).mono ?_; rintro e w2 ⟨rfl, hw⟩; subst w2; rw [ho])
    go_ret
    exact ⟨ret_bool (unhide HV).symm, (Below.refl _ _).alloc (Nat.le_refl _) _⟩
  by_cases h40 : t.size ≤ 40
  · skip
    have HR := hide hr
    have HL := hide hlen
    have HU := hide hu
    clear hr hl hlen hu
    go_enter Tryd.func18, Tryd.ntmps18
    go_wp2_with (go_at_call 43; refine (sin _ _ _ _).mono ?_; rintro e w2 ⟨rfl, hw⟩; subst w2; rw [ho])
    go_loopw [3] (fun i wr => ∃ k : Nat, k ≤ len ∧ i = .int .i64 k ∧ wr = w.alloc (.cells #[.int .i64 0, .slice a len cap, .bool pr, .string t, .string u] 37) ∧ Hid (∀ q (h : q < l.length), q < k → inB l[q] (-1) 9999 = true)) (fun i _ => len - (intOf i).toNat)
    case atStart => exact ⟨0, by omega, rfl, rfl, fun q _ h => absurd h (Nat.not_lt_zero _)⟩
    case round =>
      obtain ⟨k, hk, rfl, rfl, HF⟩ := hrel
      by_cases hlt : k < len
      · have hltl : k < l.length := by rw [unhide HL]; exact hlt
        obtain ⟨b, off, ha, hblt, hc⟩ := (unhide HR).at (by rw [cI_len]; omega)
        subst ha
        have hc1 : w.cell? ⟨b, off + k, none⟩ = some (.int .i64 l[k]) := hc k _ (cI_at l k hltl)
        have hne : ¬ b = w.heap.size := by omega
        have hlt' : (k : Int) < (len : Int) := by omega
        obtain ⟨x, hx⟩ : ∃ x, x = l[k] := ⟨_, rfl⟩
        rw [← hx] at hc1
        cases hi : inB x (-1) 9999
        · have HV : Hid (parB 0 l pr t.data.toList u.data.toList = false) :=
            par_args (by unfold argsB; rw [args_bad hltl (by rw [← hx]; exact hi)]; simp) (bare_not (by omega))
          clear hc HR HF hx hltl
          go_wp2_with (go_at_call 43; refine (sin _ _ _ _).mono ?_; rintro e w2 ⟨rfl, hw⟩; subst w2; rw [hi])
          go_ret
          exact ⟨ret_bool (unhide HV).symm, (Below.refl _ _).alloc (Nat.le_refl _) _⟩
        · have HF2 : Hid (∀ q (h : q < l.length), q < k + 1 → inB l[q] (-1) 9999 = true) := fun q h hq => by
            by_cases e : q = k
            · subst e; rw [← hx]; exact hi
            · exact unhide HF q h (by omega)
          clear hc HR HF hx hltl
          go_wp2_with (go_at_call 43; refine (sin _ _ _ _).mono ?_; rintro e w2 ⟨rfl, hw⟩; subst w2; rw [hi])
          go_roundw
          case rel => exact ⟨k + 1, by omega, by go_num, by first | rfl | trivial, HF2⟩
          case measure => simp [intOf]; omega
      · have HA : Hid (allArgs l = true) := args_take_all fun q hq => unhide HF q hq (by have := unhide HL; omega)
        clear HR HF
        go_wp2_with fail
        go_loopw [4] (fun i wr => ∃ k : Nat, k ≤ t.size ∧ i = .int .i64 k ∧ wr = w.alloc (.cells #[.int .i64 0, .slice a len cap, .bool pr, .string t, .string u] 37) ∧ Hid (∀ q (h : q < t.size), q < k → inB (t[q].toNat : Int) 32 126 = true)) (fun i _ => t.size - (intOf i).toNat)
        case atStart => exact ⟨0, by omega, rfl, rfl, fun q _ h => absurd h (Nat.not_lt_zero _)⟩
        case round =>
          obtain ⟨k2, hk2, rfl, rfl, HF⟩ := hrel
          by_cases hlt2 : k2 < t.size
          · have hlt' : (k2 : Int) < (t.size : Int) := by omega
            have hb : (t[k2].toNat : Int) ≤ 255 := by have := t[k2].toNat_lt; omega
            cases hi : inB (t[k2].toNat : Int) 32 126
            · have HV : Hid (parB 0 l pr t.data.toList u.data.toList = false) := par_title (by unfold titleB; rw [text_bad hlt2 hi]; simp)
              clear HF
              go_wp2_with (go_at_call 43; refine (sin _ _ _ _).mono ?_; rintro e w2 ⟨rfl, hw⟩; subst w2; rw [hi])
              go_ret
              exact ⟨ret_bool (unhide HV).symm, (Below.refl _ _).alloc (Nat.le_refl _) _⟩
            · have HF2 : Hid (∀ q (h : q < t.size), q < k2 + 1 → inB (t[q].toNat : Int) 32 126 = true) := fun q h hq => by
                by_cases e : q = k2
                · subst e; exact hi
                · exact unhide HF q h (by omega)
              clear HF
              go_wp2_with (go_at_call 43; refine (sin _ _ _ _).mono ?_; rintro e w2 ⟨rfl, hw⟩; subst w2; rw [hi])
              go_roundw
              case rel => exact ⟨k2 + 1, by omega, by go_num, by first | rfl | trivial, HF2⟩
              case measure => simp [intOf]; omega
          · have HT : Hid (titleB t.data.toList = true) := by
              show _ = _; unfold titleB; rw [text_take_all fun q hq => unhide HF q hq (by omega), text_len, decide_eq_true h40]; rfl
            clear HF
            by_cases h0 : len = 0
            · subst h0
              have HBR : Hid (bareB pr l = !pr) := by show _ = _; unfold bareB; rw [unhide HL]; rfl
              have HAR : Hid (argsB l = false) := by show _ = _; unfold argsB; rw [unhide HL]; rfl
              go_wp2_with (go_at_call 44; refine (sbegun u (unhide HU) _).mono ?_; rintro e w2 ⟨rfl, hw⟩; subst w2)
              all_goals
                go_ret
                refine ⟨ret_bool ?_, (Below.refl _ _).alloc (Nat.le_refl _) _⟩
                have hbr := unhide HBR
                have har := unhide HAR
                have htt := unhide HT
                clear HBR HT HAR
                rw [sparB_0, hbr, htt]
                simp_all [emp_eq]
            · have HBR : Hid (bareB pr l = false) := bare_not (by rw [unhide HL]; omega)
              have HAR : Hid (argsB l = true) := by show _ = _; unfold argsB; rw [unhide HA, unhide HL, decide_eq_true (by omega)]; rfl
              have hpos : 0 < len := by omega
              have hpos' : (0 : Int) < (len : Int) := by omega
              have hz : ((len : Int) == 0) = false := by rw [beq_eq_false_iff_ne]; omega
              clear h0
              go_wp2_with (go_at_call 44; refine (sbegun u (unhide HU) _).mono ?_; rintro e w2 ⟨rfl, hw⟩; subst w2)
              all_goals
                go_ret
                refine ⟨ret_bool ?_, (Below.refl _ _).alloc (Nat.le_refl _) _⟩
                have hbr := unhide HBR
                have har := unhide HAR
                have htt := unhide HT
                clear HBR HT HAR
                rw [sparB_0, hbr, htt]
                simp_all
  · have HV : Hid (parB 0 l pr t.data.toList u.data.toList = false) := par_title (title_long h40)
    have h40' : ¬ (t.size : Int) ≤ 40 := by omega
    clear hr hlen hl
    go_enter Tryd.func18, Tryd.ntmps18
    go_wp2_with (go_at_call 43; refine (sin _ _ _ _).mono ?_; rintro e w2 ⟨rfl, hw⟩; subst w2; rw [ho])
    go_ret
    exact ⟨ret_bool (unhide HV).symm, (Below.refl _ _).alloc (Nat.le_refl _) _⟩
set_option maxHeartbeats 400000 in
set_option maxRecDepth 100000 in
theorem spar_1 (pr : Bool) (a : Option Addr) (len cap : Nat) (l : List Int) (t u : ByteArray) (hlen : l.length = len) (hl : l.length ≤ 1048576) (ht : t.size ≤ 1048576) (hu : u.size ≤ 1048576) (w : World) (hr : RowV w a (cI l)) :
    Calls Tryd.prog 18 #[.agg #[.int .i64 1, .slice a len cap, .bool pr, .string t, .string u]] w fun e w' => e = .returned (.bool (parB 1 l pr t.data.toList u.data.toList)) ∧ Below w.heap.size w w' := by
  have ho : inB 1 0 6 = true := by decide
  have hle : len ≤ 1048576 := by omega
  by_cases h8 : 8 < len
  · have HV : Hid (parB 1 l pr t.data.toList u.data.toList = false) := par_args (args_long (by omega)) (bare_not (by omega))
    have h8' : (8 : Int) < (len : Int) := by omega
    clear hr hlen hl
    go_enter Tryd.func18, Tryd.ntmps18
    go_wp2_with (go_at_call 43; refine (sin _ _ _ _).mono ?_; rintro e w2 ⟨rfl, hw⟩; subst w2; rw [ho])
    go_ret
    exact ⟨ret_bool (unhide HV).symm, (Below.refl _ _).alloc (Nat.le_refl _) _⟩
  by_cases h40 : t.size ≤ 40
  · skip
    have HR := hide hr
    have HL := hide hlen
    have HU := hide hu
    clear hr hl hlen hu
    go_enter Tryd.func18, Tryd.ntmps18
    go_wp2_with (go_at_call 43; refine (sin _ _ _ _).mono ?_; rintro e w2 ⟨rfl, hw⟩; subst w2; rw [ho])
    go_loopw [3] (fun i wr => ∃ k : Nat, k ≤ len ∧ i = .int .i64 k ∧ wr = w.alloc (.cells #[.int .i64 1, .slice a len cap, .bool pr, .string t, .string u] 37) ∧ Hid (∀ q (h : q < l.length), q < k → inB l[q] (-1) 9999 = true)) (fun i _ => len - (intOf i).toNat)
    case atStart => exact ⟨0, by omega, rfl, rfl, fun q _ h => absurd h (Nat.not_lt_zero _)⟩
    case round =>
      obtain ⟨k, hk, rfl, rfl, HF⟩ := hrel
      by_cases hlt : k < len
      · have hltl : k < l.length := by rw [unhide HL]; exact hlt
        obtain ⟨b, off, ha, hblt, hc⟩ := (unhide HR).at (by rw [cI_len]; omega)
        subst ha
        have hc1 : w.cell? ⟨b, off + k, none⟩ = some (.int .i64 l[k]) := hc k _ (cI_at l k hltl)
        have hne : ¬ b = w.heap.size := by omega
        have hlt' : (k : Int) < (len : Int) := by omega
        obtain ⟨x, hx⟩ : ∃ x, x = l[k] := ⟨_, rfl⟩
        rw [← hx] at hc1
        cases hi : inB x (-1) 9999
        · have HV : Hid (parB 1 l pr t.data.toList u.data.toList = false) :=
            par_args (by unfold argsB; rw [args_bad hltl (by rw [← hx]; exact hi)]; simp) (bare_not (by omega))
          clear hc HR HF hx hltl
          go_wp2_with (go_at_call 43; refine (sin _ _ _ _).mono ?_; rintro e w2 ⟨rfl, hw⟩; subst w2; rw [hi])
          go_ret
          exact ⟨ret_bool (unhide HV).symm, (Below.refl _ _).alloc (Nat.le_refl _) _⟩
        · have HF2 : Hid (∀ q (h : q < l.length), q < k + 1 → inB l[q] (-1) 9999 = true) := fun q h hq => by
            by_cases e : q = k
            · subst e; rw [← hx]; exact hi
            · exact unhide HF q h (by omega)
          clear hc HR HF hx hltl
          go_wp2_with (go_at_call 43; refine (sin _ _ _ _).mono ?_; rintro e w2 ⟨rfl, hw⟩; subst w2; rw [hi])
          go_roundw
          case rel => exact ⟨k + 1, by omega, by go_num, by first | rfl | trivial, HF2⟩
          case measure => simp [intOf]; omega
      · have HA : Hid (allArgs l = true) := args_take_all fun q hq => unhide HF q hq (by have := unhide HL; omega)
        clear HR HF
        go_wp2_with fail
        go_loopw [4] (fun i wr => ∃ k : Nat, k ≤ t.size ∧ i = .int .i64 k ∧ wr = w.alloc (.cells #[.int .i64 1, .slice a len cap, .bool pr, .string t, .string u] 37) ∧ Hid (∀ q (h : q < t.size), q < k → inB (t[q].toNat : Int) 32 126 = true)) (fun i _ => t.size - (intOf i).toNat)
        case atStart => exact ⟨0, by omega, rfl, rfl, fun q _ h => absurd h (Nat.not_lt_zero _)⟩
        case round =>
          obtain ⟨k2, hk2, rfl, rfl, HF⟩ := hrel
          by_cases hlt2 : k2 < t.size
          · have hlt' : (k2 : Int) < (t.size : Int) := by omega
            have hb : (t[k2].toNat : Int) ≤ 255 := by have := t[k2].toNat_lt; omega
            cases hi : inB (t[k2].toNat : Int) 32 126
            · have HV : Hid (parB 1 l pr t.data.toList u.data.toList = false) := par_title (by unfold titleB; rw [text_bad hlt2 hi]; simp)
              clear HF
              go_wp2_with (go_at_call 43; refine (sin _ _ _ _).mono ?_; rintro e w2 ⟨rfl, hw⟩; subst w2; rw [hi])
              go_ret
              exact ⟨ret_bool (unhide HV).symm, (Below.refl _ _).alloc (Nat.le_refl _) _⟩
            · have HF2 : Hid (∀ q (h : q < t.size), q < k2 + 1 → inB (t[q].toNat : Int) 32 126 = true) := fun q h hq => by
                by_cases e : q = k2
                · subst e; exact hi
                · exact unhide HF q h (by omega)
              clear HF
              go_wp2_with (go_at_call 43; refine (sin _ _ _ _).mono ?_; rintro e w2 ⟨rfl, hw⟩; subst w2; rw [hi])
              go_roundw
              case rel => exact ⟨k2 + 1, by omega, by go_num, by first | rfl | trivial, HF2⟩
              case measure => simp [intOf]; omega
          · have HT : Hid (titleB t.data.toList = true) := by
              show _ = _; unfold titleB; rw [text_take_all fun q hq => unhide HF q hq (by omega), text_len, decide_eq_true h40]; rfl
            clear HF
            by_cases h0 : len = 0
            · subst h0
              have HBR : Hid (bareB pr l = !pr) := by show _ = _; unfold bareB; rw [unhide HL]; rfl
              have HAR : Hid (argsB l = false) := by show _ = _; unfold argsB; rw [unhide HL]; rfl
              go_wp2_with (go_at_call 44; refine (sbegun u (unhide HU) _).mono ?_; rintro e w2 ⟨rfl, hw⟩; subst w2)
              all_goals
                go_ret
                refine ⟨ret_bool ?_, (Below.refl _ _).alloc (Nat.le_refl _) _⟩
                have hbr := unhide HBR
                have har := unhide HAR
                have htt := unhide HT
                clear HBR HT HAR
                rw [sparB_1, hbr, htt]
                simp_all [emp_eq]
            · have HBR : Hid (bareB pr l = false) := bare_not (by rw [unhide HL]; omega)
              have HAR : Hid (argsB l = true) := by show _ = _; unfold argsB; rw [unhide HA, unhide HL, decide_eq_true (by omega)]; rfl
              have hpos : 0 < len := by omega
              have hpos' : (0 : Int) < (len : Int) := by omega
              have hz : ((len : Int) == 0) = false := by rw [beq_eq_false_iff_ne]; omega
              clear h0
              go_wp2_with (go_at_call 44; refine (sbegun u (unhide HU) _).mono ?_; rintro e w2 ⟨rfl, hw⟩; subst w2)
              all_goals
                go_ret
                refine ⟨ret_bool ?_, (Below.refl _ _).alloc (Nat.le_refl _) _⟩
                have hbr := unhide HBR
                have har := unhide HAR
                have htt := unhide HT
                clear HBR HT HAR
                rw [sparB_1, hbr, htt]
                simp_all
  · have HV : Hid (parB 1 l pr t.data.toList u.data.toList = false) := par_title (title_long h40)
    have h40' : ¬ (t.size : Int) ≤ 40 := by omega
    clear hr hlen hl
    go_enter Tryd.func18, Tryd.ntmps18
    go_wp2_with (go_at_call 43; refine (sin _ _ _ _).mono ?_; rintro e w2 ⟨rfl, hw⟩; subst w2; rw [ho])
    go_ret
    exact ⟨ret_bool (unhide HV).symm, (Below.refl _ _).alloc (Nat.le_refl _) _⟩
set_option maxHeartbeats 400000 in
set_option maxRecDepth 100000 in
theorem spar_2 (pr : Bool) (a : Option Addr) (len cap : Nat) (l : List Int) (t u : ByteArray) (hlen : l.length = len) (hl : l.length ≤ 1048576) (ht : t.size ≤ 1048576) (hu : u.size ≤ 1048576) (w : World) (hr : RowV w a (cI l)) :
    Calls Tryd.prog 18 #[.agg #[.int .i64 2, .slice a len cap, .bool pr, .string t, .string u]] w fun e w' => e = .returned (.bool (parB 2 l pr t.data.toList u.data.toList)) ∧ Below w.heap.size w w' := by
  have ho : inB 2 0 6 = true := by decide
  have hle : len ≤ 1048576 := by omega
  by_cases h8 : 8 < len
  · have HV : Hid (parB 2 l pr t.data.toList u.data.toList = false) := par_args (args_long (by omega)) (bare_not (by omega))
    have h8' : (8 : Int) < (len : Int) := by omega
    clear hr hlen hl
    go_enter Tryd.func18, Tryd.ntmps18
    go_wp2_with (go_at_call 43; refine (sin _ _ _ _).mono ?_; rintro e w2 ⟨rfl, hw⟩; subst w2; rw [ho])
    go_ret
    exact ⟨ret_bool (unhide HV).symm, (Below.refl _ _).alloc (Nat.le_refl _) _⟩
  by_cases h40 : t.size ≤ 40
  · skip
    have HR := hide hr
    have HL := hide hlen
    have HU := hide hu
    clear hr hl hlen hu
    go_enter Tryd.func18, Tryd.ntmps18
    go_wp2_with (go_at_call 43; refine (sin _ _ _ _).mono ?_; rintro e w2 ⟨rfl, hw⟩; subst w2; rw [ho])
    go_loopw [3] (fun i wr => ∃ k : Nat, k ≤ len ∧ i = .int .i64 k ∧ wr = w.alloc (.cells #[.int .i64 2, .slice a len cap, .bool pr, .string t, .string u] 37) ∧ Hid (∀ q (h : q < l.length), q < k → inB l[q] (-1) 9999 = true)) (fun i _ => len - (intOf i).toNat)
    case atStart => exact ⟨0, by omega, rfl, rfl, fun q _ h => absurd h (Nat.not_lt_zero _)⟩
    case round =>
      obtain ⟨k, hk, rfl, rfl, HF⟩ := hrel
      by_cases hlt : k < len
      · have hltl : k < l.length := by rw [unhide HL]; exact hlt
        obtain ⟨b, off, ha, hblt, hc⟩ := (unhide HR).at (by rw [cI_len]; omega)
        subst ha
        have hc1 : w.cell? ⟨b, off + k, none⟩ = some (.int .i64 l[k]) := hc k _ (cI_at l k hltl)
        have hne : ¬ b = w.heap.size := by omega
        have hlt' : (k : Int) < (len : Int) := by omega
        obtain ⟨x, hx⟩ : ∃ x, x = l[k] := ⟨_, rfl⟩
        rw [← hx] at hc1
        cases hi : inB x (-1) 9999
        · have HV : Hid (parB 2 l pr t.data.toList u.data.toList = false) :=
            par_args (by unfold argsB; rw [args_bad hltl (by rw [← hx]; exact hi)]; simp) (bare_not (by omega))
          clear hc HR HF hx hltl
          go_wp2_with (go_at_call 43; refine (sin _ _ _ _).mono ?_; rintro e w2 ⟨rfl, hw⟩; subst w2; rw [hi])
          go_ret
          exact ⟨ret_bool (unhide HV).symm, (Below.refl _ _).alloc (Nat.le_refl _) _⟩
        · have HF2 : Hid (∀ q (h : q < l.length), q < k + 1 → inB l[q] (-1) 9999 = true) := fun q h hq => by
            by_cases e : q = k
            · subst e; rw [← hx]; exact hi
            · exact unhide HF q h (by omega)
          clear hc HR HF hx hltl
          go_wp2_with (go_at_call 43; refine (sin _ _ _ _).mono ?_; rintro e w2 ⟨rfl, hw⟩; subst w2; rw [hi])
          go_roundw
          case rel => exact ⟨k + 1, by omega, by go_num, by first | rfl | trivial, HF2⟩
          case measure => simp [intOf]; omega
      · have HA : Hid (allArgs l = true) := args_take_all fun q hq => unhide HF q hq (by have := unhide HL; omega)
        clear HR HF
        go_wp2_with fail
        go_loopw [4] (fun i wr => ∃ k : Nat, k ≤ t.size ∧ i = .int .i64 k ∧ wr = w.alloc (.cells #[.int .i64 2, .slice a len cap, .bool pr, .string t, .string u] 37) ∧ Hid (∀ q (h : q < t.size), q < k → inB (t[q].toNat : Int) 32 126 = true)) (fun i _ => t.size - (intOf i).toNat)
        case atStart => exact ⟨0, by omega, rfl, rfl, fun q _ h => absurd h (Nat.not_lt_zero _)⟩
        case round =>
          obtain ⟨k2, hk2, rfl, rfl, HF⟩ := hrel
          by_cases hlt2 : k2 < t.size
          · have hlt' : (k2 : Int) < (t.size : Int) := by omega
            have hb : (t[k2].toNat : Int) ≤ 255 := by have := t[k2].toNat_lt; omega
            cases hi : inB (t[k2].toNat : Int) 32 126
            · have HV : Hid (parB 2 l pr t.data.toList u.data.toList = false) := par_title (by unfold titleB; rw [text_bad hlt2 hi]; simp)
              clear HF
              go_wp2_with (go_at_call 43; refine (sin _ _ _ _).mono ?_; rintro e w2 ⟨rfl, hw⟩; subst w2; rw [hi])
              go_ret
              exact ⟨ret_bool (unhide HV).symm, (Below.refl _ _).alloc (Nat.le_refl _) _⟩
            · have HF2 : Hid (∀ q (h : q < t.size), q < k2 + 1 → inB (t[q].toNat : Int) 32 126 = true) := fun q h hq => by
                by_cases e : q = k2
                · subst e; exact hi
                · exact unhide HF q h (by omega)
              clear HF
              go_wp2_with (go_at_call 43; refine (sin _ _ _ _).mono ?_; rintro e w2 ⟨rfl, hw⟩; subst w2; rw [hi])
              go_roundw
              case rel => exact ⟨k2 + 1, by omega, by go_num, by first | rfl | trivial, HF2⟩
              case measure => simp [intOf]; omega
          · have HT : Hid (titleB t.data.toList = true) := by
              show _ = _; unfold titleB; rw [text_take_all fun q hq => unhide HF q hq (by omega), text_len, decide_eq_true h40]; rfl
            clear HF
            by_cases h0 : len = 0
            · subst h0
              have HBR : Hid (bareB pr l = !pr) := by show _ = _; unfold bareB; rw [unhide HL]; rfl
              have HAR : Hid (argsB l = false) := by show _ = _; unfold argsB; rw [unhide HL]; rfl
              go_wp2_with (go_at_call 44; refine (sbegun u (unhide HU) _).mono ?_; rintro e w2 ⟨rfl, hw⟩; subst w2)
              all_goals
                go_ret
                refine ⟨ret_bool ?_, (Below.refl _ _).alloc (Nat.le_refl _) _⟩
                have hbr := unhide HBR
                have har := unhide HAR
                have htt := unhide HT
                clear HBR HT HAR
                rw [sparB_2, har, htt]
                simp_all
            · have HBR : Hid (bareB pr l = false) := bare_not (by rw [unhide HL]; omega)
              have HAR : Hid (argsB l = true) := by show _ = _; unfold argsB; rw [unhide HA, unhide HL, decide_eq_true (by omega)]; rfl
              have hpos : 0 < len := by omega
              have hpos' : (0 : Int) < (len : Int) := by omega
              have hz : ((len : Int) == 0) = false := by rw [beq_eq_false_iff_ne]; omega
              clear h0
              go_wp2_with (go_at_call 44; refine (sbegun u (unhide HU) _).mono ?_; rintro e w2 ⟨rfl, hw⟩; subst w2)
              all_goals
                go_ret
                refine ⟨ret_bool ?_, (Below.refl _ _).alloc (Nat.le_refl _) _⟩
                have hbr := unhide HBR
                have har := unhide HAR
                have htt := unhide HT
                clear HBR HT HAR
                rw [sparB_2, har, htt]
                simp_all [emp_eq]
  · have HV : Hid (parB 2 l pr t.data.toList u.data.toList = false) := par_title (title_long h40)
    have h40' : ¬ (t.size : Int) ≤ 40 := by omega
    clear hr hlen hl
    go_enter Tryd.func18, Tryd.ntmps18
    go_wp2_with (go_at_call 43; refine (sin _ _ _ _).mono ?_; rintro e w2 ⟨rfl, hw⟩; subst w2; rw [ho])
    go_ret
    exact ⟨ret_bool (unhide HV).symm, (Below.refl _ _).alloc (Nat.le_refl _) _⟩
set_option maxHeartbeats 400000 in
set_option maxRecDepth 100000 in
theorem spar_3 (pr : Bool) (a : Option Addr) (len cap : Nat) (l : List Int) (t u : ByteArray) (hlen : l.length = len) (hl : l.length ≤ 1048576) (ht : t.size ≤ 1048576) (hu : u.size ≤ 1048576) (w : World) (hr : RowV w a (cI l)) :
    Calls Tryd.prog 18 #[.agg #[.int .i64 3, .slice a len cap, .bool pr, .string t, .string u]] w fun e w' => e = .returned (.bool (parB 3 l pr t.data.toList u.data.toList)) ∧ Below w.heap.size w w' := by
  have ho : inB 3 0 6 = true := by decide
  have hle : len ≤ 1048576 := by omega
  by_cases h8 : 8 < len
  · have HV : Hid (parB 3 l pr t.data.toList u.data.toList = false) := par_args (args_long (by omega)) (bare_not (by omega))
    have h8' : (8 : Int) < (len : Int) := by omega
    clear hr hlen hl
    go_enter Tryd.func18, Tryd.ntmps18
    go_wp2_with (go_at_call 43; refine (sin _ _ _ _).mono ?_; rintro e w2 ⟨rfl, hw⟩; subst w2; rw [ho])
    go_ret
    exact ⟨ret_bool (unhide HV).symm, (Below.refl _ _).alloc (Nat.le_refl _) _⟩
  by_cases h40 : t.size ≤ 40
  · skip
    have HR := hide hr
    have HL := hide hlen
    have HU := hide hu
    clear hr hl hlen hu
    go_enter Tryd.func18, Tryd.ntmps18
    go_wp2_with (go_at_call 43; refine (sin _ _ _ _).mono ?_; rintro e w2 ⟨rfl, hw⟩; subst w2; rw [ho])
    go_loopw [3] (fun i wr => ∃ k : Nat, k ≤ len ∧ i = .int .i64 k ∧ wr = w.alloc (.cells #[.int .i64 3, .slice a len cap, .bool pr, .string t, .string u] 37) ∧ Hid (∀ q (h : q < l.length), q < k → inB l[q] (-1) 9999 = true)) (fun i _ => len - (intOf i).toNat)
    case atStart => exact ⟨0, by omega, rfl, rfl, fun q _ h => absurd h (Nat.not_lt_zero _)⟩
    case round =>
      obtain ⟨k, hk, rfl, rfl, HF⟩ := hrel
      by_cases hlt : k < len
      · have hltl : k < l.length := by rw [unhide HL]; exact hlt
        obtain ⟨b, off, ha, hblt, hc⟩ := (unhide HR).at (by rw [cI_len]; omega)
        subst ha
        have hc1 : w.cell? ⟨b, off + k, none⟩ = some (.int .i64 l[k]) := hc k _ (cI_at l k hltl)
        have hne : ¬ b = w.heap.size := by omega
        have hlt' : (k : Int) < (len : Int) := by omega
        obtain ⟨x, hx⟩ : ∃ x, x = l[k] := ⟨_, rfl⟩
        rw [← hx] at hc1
        cases hi : inB x (-1) 9999
        · have HV : Hid (parB 3 l pr t.data.toList u.data.toList = false) :=
            par_args (by unfold argsB; rw [args_bad hltl (by rw [← hx]; exact hi)]; simp) (bare_not (by omega))
          clear hc HR HF hx hltl
          go_wp2_with (go_at_call 43; refine (sin _ _ _ _).mono ?_; rintro e w2 ⟨rfl, hw⟩; subst w2; rw [hi])
          go_ret
          exact ⟨ret_bool (unhide HV).symm, (Below.refl _ _).alloc (Nat.le_refl _) _⟩
        · have HF2 : Hid (∀ q (h : q < l.length), q < k + 1 → inB l[q] (-1) 9999 = true) := fun q h hq => by
            by_cases e : q = k
            · subst e; rw [← hx]; exact hi
            · exact unhide HF q h (by omega)
          clear hc HR HF hx hltl
          go_wp2_with (go_at_call 43; refine (sin _ _ _ _).mono ?_; rintro e w2 ⟨rfl, hw⟩; subst w2; rw [hi])
          go_roundw
          case rel => exact ⟨k + 1, by omega, by go_num, by first | rfl | trivial, HF2⟩
          case measure => simp [intOf]; omega
      · have HA : Hid (allArgs l = true) := args_take_all fun q hq => unhide HF q hq (by have := unhide HL; omega)
        clear HR HF
        go_wp2_with fail
        go_loopw [4] (fun i wr => ∃ k : Nat, k ≤ t.size ∧ i = .int .i64 k ∧ wr = w.alloc (.cells #[.int .i64 3, .slice a len cap, .bool pr, .string t, .string u] 37) ∧ Hid (∀ q (h : q < t.size), q < k → inB (t[q].toNat : Int) 32 126 = true)) (fun i _ => t.size - (intOf i).toNat)
        case atStart => exact ⟨0, by omega, rfl, rfl, fun q _ h => absurd h (Nat.not_lt_zero _)⟩
        case round =>
          obtain ⟨k2, hk2, rfl, rfl, HF⟩ := hrel
          by_cases hlt2 : k2 < t.size
          · have hlt' : (k2 : Int) < (t.size : Int) := by omega
            have hb : (t[k2].toNat : Int) ≤ 255 := by have := t[k2].toNat_lt; omega
            cases hi : inB (t[k2].toNat : Int) 32 126
            · have HV : Hid (parB 3 l pr t.data.toList u.data.toList = false) := par_title (by unfold titleB; rw [text_bad hlt2 hi]; simp)
              clear HF
              go_wp2_with (go_at_call 43; refine (sin _ _ _ _).mono ?_; rintro e w2 ⟨rfl, hw⟩; subst w2; rw [hi])
              go_ret
              exact ⟨ret_bool (unhide HV).symm, (Below.refl _ _).alloc (Nat.le_refl _) _⟩
            · have HF2 : Hid (∀ q (h : q < t.size), q < k2 + 1 → inB (t[q].toNat : Int) 32 126 = true) := fun q h hq => by
                by_cases e : q = k2
                · subst e; exact hi
                · exact unhide HF q h (by omega)
              clear HF
              go_wp2_with (go_at_call 43; refine (sin _ _ _ _).mono ?_; rintro e w2 ⟨rfl, hw⟩; subst w2; rw [hi])
              go_roundw
              case rel => exact ⟨k2 + 1, by omega, by go_num, by first | rfl | trivial, HF2⟩
              case measure => simp [intOf]; omega
          · have HT : Hid (titleB t.data.toList = true) := by
              show _ = _; unfold titleB; rw [text_take_all fun q hq => unhide HF q hq (by omega), text_len, decide_eq_true h40]; rfl
            clear HF
            by_cases h0 : len = 0
            · subst h0
              have HBR : Hid (bareB pr l = !pr) := by show _ = _; unfold bareB; rw [unhide HL]; rfl
              have HAR : Hid (argsB l = false) := by show _ = _; unfold argsB; rw [unhide HL]; rfl
              go_wp2_with (go_at_call 44; refine (sbegun u (unhide HU) _).mono ?_; rintro e w2 ⟨rfl, hw⟩; subst w2)
              all_goals
                go_ret
                refine ⟨ret_bool ?_, (Below.refl _ _).alloc (Nat.le_refl _) _⟩
                have hbr := unhide HBR
                have har := unhide HAR
                have htt := unhide HT
                clear HBR HT HAR
                rw [sparB_3, hbr, htt]
                simp_all [emp_eq]
            · have HBR : Hid (bareB pr l = false) := bare_not (by rw [unhide HL]; omega)
              have HAR : Hid (argsB l = true) := by show _ = _; unfold argsB; rw [unhide HA, unhide HL, decide_eq_true (by omega)]; rfl
              have hpos : 0 < len := by omega
              have hpos' : (0 : Int) < (len : Int) := by omega
              have hz : ((len : Int) == 0) = false := by rw [beq_eq_false_iff_ne]; omega
              clear h0
              go_wp2_with (go_at_call 44; refine (sbegun u (unhide HU) _).mono ?_; rintro e w2 ⟨rfl, hw⟩; subst w2)
              all_goals
                go_ret
                refine ⟨ret_bool ?_, (Below.refl _ _).alloc (Nat.le_refl _) _⟩
                have hbr := unhide HBR
                have har := unhide HAR
                have htt := unhide HT
                clear HBR HT HAR
                rw [sparB_3, hbr, htt]
                simp_all
  · have HV : Hid (parB 3 l pr t.data.toList u.data.toList = false) := par_title (title_long h40)
    have h40' : ¬ (t.size : Int) ≤ 40 := by omega
    clear hr hlen hl
    go_enter Tryd.func18, Tryd.ntmps18
    go_wp2_with (go_at_call 43; refine (sin _ _ _ _).mono ?_; rintro e w2 ⟨rfl, hw⟩; subst w2; rw [ho])
    go_ret
    exact ⟨ret_bool (unhide HV).symm, (Below.refl _ _).alloc (Nat.le_refl _) _⟩
set_option maxHeartbeats 400000 in
set_option maxRecDepth 100000 in
theorem spar_4 (pr : Bool) (a : Option Addr) (len cap : Nat) (l : List Int) (t u : ByteArray) (hlen : l.length = len) (hl : l.length ≤ 1048576) (ht : t.size ≤ 1048576) (hu : u.size ≤ 1048576) (w : World) (hr : RowV w a (cI l)) :
    Calls Tryd.prog 18 #[.agg #[.int .i64 4, .slice a len cap, .bool pr, .string t, .string u]] w fun e w' => e = .returned (.bool (parB 4 l pr t.data.toList u.data.toList)) ∧ Below w.heap.size w w' := by
  have ho : inB 4 0 6 = true := by decide
  have hle : len ≤ 1048576 := by omega
  by_cases h8 : 8 < len
  · have HV : Hid (parB 4 l pr t.data.toList u.data.toList = false) := par_args (args_long (by omega)) (bare_not (by omega))
    have h8' : (8 : Int) < (len : Int) := by omega
    clear hr hlen hl
    go_enter Tryd.func18, Tryd.ntmps18
    go_wp2_with (go_at_call 43; refine (sin _ _ _ _).mono ?_; rintro e w2 ⟨rfl, hw⟩; subst w2; rw [ho])
    go_ret
    exact ⟨ret_bool (unhide HV).symm, (Below.refl _ _).alloc (Nat.le_refl _) _⟩
  by_cases h40 : t.size ≤ 40
  · skip
    have HR := hide hr
    have HL := hide hlen
    have HU := hide hu
    clear hr hl hlen hu
    go_enter Tryd.func18, Tryd.ntmps18
    go_wp2_with (go_at_call 43; refine (sin _ _ _ _).mono ?_; rintro e w2 ⟨rfl, hw⟩; subst w2; rw [ho])
    go_loopw [3] (fun i wr => ∃ k : Nat, k ≤ len ∧ i = .int .i64 k ∧ wr = w.alloc (.cells #[.int .i64 4, .slice a len cap, .bool pr, .string t, .string u] 37) ∧ Hid (∀ q (h : q < l.length), q < k → inB l[q] (-1) 9999 = true)) (fun i _ => len - (intOf i).toNat)
    case atStart => exact ⟨0, by omega, rfl, rfl, fun q _ h => absurd h (Nat.not_lt_zero _)⟩
    case round =>
      obtain ⟨k, hk, rfl, rfl, HF⟩ := hrel
      by_cases hlt : k < len
      · have hltl : k < l.length := by rw [unhide HL]; exact hlt
        obtain ⟨b, off, ha, hblt, hc⟩ := (unhide HR).at (by rw [cI_len]; omega)
        subst ha
        have hc1 : w.cell? ⟨b, off + k, none⟩ = some (.int .i64 l[k]) := hc k _ (cI_at l k hltl)
        have hne : ¬ b = w.heap.size := by omega
        have hlt' : (k : Int) < (len : Int) := by omega
        obtain ⟨x, hx⟩ : ∃ x, x = l[k] := ⟨_, rfl⟩
        rw [← hx] at hc1
        cases hi : inB x (-1) 9999
        · have HV : Hid (parB 4 l pr t.data.toList u.data.toList = false) :=
            par_args (by unfold argsB; rw [args_bad hltl (by rw [← hx]; exact hi)]; simp) (bare_not (by omega))
          clear hc HR HF hx hltl
          go_wp2_with (go_at_call 43; refine (sin _ _ _ _).mono ?_; rintro e w2 ⟨rfl, hw⟩; subst w2; rw [hi])
          go_ret
          exact ⟨ret_bool (unhide HV).symm, (Below.refl _ _).alloc (Nat.le_refl _) _⟩
        · have HF2 : Hid (∀ q (h : q < l.length), q < k + 1 → inB l[q] (-1) 9999 = true) := fun q h hq => by
            by_cases e : q = k
            · subst e; rw [← hx]; exact hi
            · exact unhide HF q h (by omega)
          clear hc HR HF hx hltl
          go_wp2_with (go_at_call 43; refine (sin _ _ _ _).mono ?_; rintro e w2 ⟨rfl, hw⟩; subst w2; rw [hi])
          go_roundw
          case rel => exact ⟨k + 1, by omega, by go_num, by first | rfl | trivial, HF2⟩
          case measure => simp [intOf]; omega
      · have HA : Hid (allArgs l = true) := args_take_all fun q hq => unhide HF q hq (by have := unhide HL; omega)
        clear HR HF
        go_wp2_with fail
        go_loopw [4] (fun i wr => ∃ k : Nat, k ≤ t.size ∧ i = .int .i64 k ∧ wr = w.alloc (.cells #[.int .i64 4, .slice a len cap, .bool pr, .string t, .string u] 37) ∧ Hid (∀ q (h : q < t.size), q < k → inB (t[q].toNat : Int) 32 126 = true)) (fun i _ => t.size - (intOf i).toNat)
        case atStart => exact ⟨0, by omega, rfl, rfl, fun q _ h => absurd h (Nat.not_lt_zero _)⟩
        case round =>
          obtain ⟨k2, hk2, rfl, rfl, HF⟩ := hrel
          by_cases hlt2 : k2 < t.size
          · have hlt' : (k2 : Int) < (t.size : Int) := by omega
            have hb : (t[k2].toNat : Int) ≤ 255 := by have := t[k2].toNat_lt; omega
            cases hi : inB (t[k2].toNat : Int) 32 126
            · have HV : Hid (parB 4 l pr t.data.toList u.data.toList = false) := par_title (by unfold titleB; rw [text_bad hlt2 hi]; simp)
              clear HF
              go_wp2_with (go_at_call 43; refine (sin _ _ _ _).mono ?_; rintro e w2 ⟨rfl, hw⟩; subst w2; rw [hi])
              go_ret
              exact ⟨ret_bool (unhide HV).symm, (Below.refl _ _).alloc (Nat.le_refl _) _⟩
            · have HF2 : Hid (∀ q (h : q < t.size), q < k2 + 1 → inB (t[q].toNat : Int) 32 126 = true) := fun q h hq => by
                by_cases e : q = k2
                · subst e; exact hi
                · exact unhide HF q h (by omega)
              clear HF
              go_wp2_with (go_at_call 43; refine (sin _ _ _ _).mono ?_; rintro e w2 ⟨rfl, hw⟩; subst w2; rw [hi])
              go_roundw
              case rel => exact ⟨k2 + 1, by omega, by go_num, by first | rfl | trivial, HF2⟩
              case measure => simp [intOf]; omega
          · have HT : Hid (titleB t.data.toList = true) := by
              show _ = _; unfold titleB; rw [text_take_all fun q hq => unhide HF q hq (by omega), text_len, decide_eq_true h40]; rfl
            clear HF
            by_cases h0 : len = 0
            · subst h0
              have HBR : Hid (bareB pr l = !pr) := by show _ = _; unfold bareB; rw [unhide HL]; rfl
              have HAR : Hid (argsB l = false) := by show _ = _; unfold argsB; rw [unhide HL]; rfl
              go_wp2_with (go_at_call 44; refine (sbegun u (unhide HU) _).mono ?_; rintro e w2 ⟨rfl, hw⟩; subst w2)
              all_goals
                go_ret
                refine ⟨ret_bool ?_, (Below.refl _ _).alloc (Nat.le_refl _) _⟩
                have hbr := unhide HBR
                have har := unhide HAR
                have htt := unhide HT
                clear HBR HT HAR
                rw [sparB_4, hbr, htt]
                simp_all [emp_eq]
            · have HBR : Hid (bareB pr l = false) := bare_not (by rw [unhide HL]; omega)
              have HAR : Hid (argsB l = true) := by show _ = _; unfold argsB; rw [unhide HA, unhide HL, decide_eq_true (by omega)]; rfl
              have hpos : 0 < len := by omega
              have hpos' : (0 : Int) < (len : Int) := by omega
              have hz : ((len : Int) == 0) = false := by rw [beq_eq_false_iff_ne]; omega
              clear h0
              go_wp2_with (go_at_call 44; refine (sbegun u (unhide HU) _).mono ?_; rintro e w2 ⟨rfl, hw⟩; subst w2)
              all_goals
                go_ret
                refine ⟨ret_bool ?_, (Below.refl _ _).alloc (Nat.le_refl _) _⟩
                have hbr := unhide HBR
                have har := unhide HAR
                have htt := unhide HT
                clear HBR HT HAR
                rw [sparB_4, hbr, htt]
                simp_all
  · have HV : Hid (parB 4 l pr t.data.toList u.data.toList = false) := par_title (title_long h40)
    have h40' : ¬ (t.size : Int) ≤ 40 := by omega
    clear hr hlen hl
    go_enter Tryd.func18, Tryd.ntmps18
    go_wp2_with (go_at_call 43; refine (sin _ _ _ _).mono ?_; rintro e w2 ⟨rfl, hw⟩; subst w2; rw [ho])
    go_ret
    exact ⟨ret_bool (unhide HV).symm, (Below.refl _ _).alloc (Nat.le_refl _) _⟩
set_option maxHeartbeats 400000 in
set_option maxRecDepth 100000 in
theorem spar_5 (pr : Bool) (a : Option Addr) (len cap : Nat) (l : List Int) (t u : ByteArray) (hlen : l.length = len) (hl : l.length ≤ 1048576) (ht : t.size ≤ 1048576) (hu : u.size ≤ 1048576) (w : World) (hr : RowV w a (cI l)) :
    Calls Tryd.prog 18 #[.agg #[.int .i64 5, .slice a len cap, .bool pr, .string t, .string u]] w fun e w' => e = .returned (.bool (parB 5 l pr t.data.toList u.data.toList)) ∧ Below w.heap.size w w' := by
  have ho : inB 5 0 6 = true := by decide
  have hle : len ≤ 1048576 := by omega
  by_cases h8 : 8 < len
  · have HV : Hid (parB 5 l pr t.data.toList u.data.toList = false) := par_args (args_long (by omega)) (bare_not (by omega))
    have h8' : (8 : Int) < (len : Int) := by omega
    clear hr hlen hl
    go_enter Tryd.func18, Tryd.ntmps18
    go_wp2_with (go_at_call 43; refine (sin _ _ _ _).mono ?_; rintro e w2 ⟨rfl, hw⟩; subst w2; rw [ho])
    go_ret
    exact ⟨ret_bool (unhide HV).symm, (Below.refl _ _).alloc (Nat.le_refl _) _⟩
  by_cases h40 : t.size ≤ 40
  · skip
    have HR := hide hr
    have HL := hide hlen
    have HU := hide hu
    clear hr hl hlen hu
    go_enter Tryd.func18, Tryd.ntmps18
    go_wp2_with (go_at_call 43; refine (sin _ _ _ _).mono ?_; rintro e w2 ⟨rfl, hw⟩; subst w2; rw [ho])
    go_loopw [3] (fun i wr => ∃ k : Nat, k ≤ len ∧ i = .int .i64 k ∧ wr = w.alloc (.cells #[.int .i64 5, .slice a len cap, .bool pr, .string t, .string u] 37) ∧ Hid (∀ q (h : q < l.length), q < k → inB l[q] (-1) 9999 = true)) (fun i _ => len - (intOf i).toNat)
    case atStart => exact ⟨0, by omega, rfl, rfl, fun q _ h => absurd h (Nat.not_lt_zero _)⟩
    case round =>
      obtain ⟨k, hk, rfl, rfl, HF⟩ := hrel
      by_cases hlt : k < len
      · have hltl : k < l.length := by rw [unhide HL]; exact hlt
        obtain ⟨b, off, ha, hblt, hc⟩ := (unhide HR).at (by rw [cI_len]; omega)
        subst ha
        have hc1 : w.cell? ⟨b, off + k, none⟩ = some (.int .i64 l[k]) := hc k _ (cI_at l k hltl)
        have hne : ¬ b = w.heap.size := by omega
        have hlt' : (k : Int) < (len : Int) := by omega
        obtain ⟨x, hx⟩ : ∃ x, x = l[k] := ⟨_, rfl⟩
        rw [← hx] at hc1
        cases hi : inB x (-1) 9999
        · have HV : Hid (parB 5 l pr t.data.toList u.data.toList = false) :=
            par_args (by unfold argsB; rw [args_bad hltl (by rw [← hx]; exact hi)]; simp) (bare_not (by omega))
          clear hc HR HF hx hltl
          go_wp2_with (go_at_call 43; refine (sin _ _ _ _).mono ?_; rintro e w2 ⟨rfl, hw⟩; subst w2; rw [hi])
          go_ret
          exact ⟨ret_bool (unhide HV).symm, (Below.refl _ _).alloc (Nat.le_refl _) _⟩
        · have HF2 : Hid (∀ q (h : q < l.length), q < k + 1 → inB l[q] (-1) 9999 = true) := fun q h hq => by
            by_cases e : q = k
            · subst e; rw [← hx]; exact hi
            · exact unhide HF q h (by omega)
          clear hc HR HF hx hltl
          go_wp2_with (go_at_call 43; refine (sin _ _ _ _).mono ?_; rintro e w2 ⟨rfl, hw⟩; subst w2; rw [hi])
          go_roundw
          case rel => exact ⟨k + 1, by omega, by go_num, by first | rfl | trivial, HF2⟩
          case measure => simp [intOf]; omega
      · have HA : Hid (allArgs l = true) := args_take_all fun q hq => unhide HF q hq (by have := unhide HL; omega)
        clear HR HF
        go_wp2_with fail
        go_loopw [4] (fun i wr => ∃ k : Nat, k ≤ t.size ∧ i = .int .i64 k ∧ wr = w.alloc (.cells #[.int .i64 5, .slice a len cap, .bool pr, .string t, .string u] 37) ∧ Hid (∀ q (h : q < t.size), q < k → inB (t[q].toNat : Int) 32 126 = true)) (fun i _ => t.size - (intOf i).toNat)
        case atStart => exact ⟨0, by omega, rfl, rfl, fun q _ h => absurd h (Nat.not_lt_zero _)⟩
        case round =>
          obtain ⟨k2, hk2, rfl, rfl, HF⟩ := hrel
          by_cases hlt2 : k2 < t.size
          · have hlt' : (k2 : Int) < (t.size : Int) := by omega
            have hb : (t[k2].toNat : Int) ≤ 255 := by have := t[k2].toNat_lt; omega
            cases hi : inB (t[k2].toNat : Int) 32 126
            · have HV : Hid (parB 5 l pr t.data.toList u.data.toList = false) := par_title (by unfold titleB; rw [text_bad hlt2 hi]; simp)
              clear HF
              go_wp2_with (go_at_call 43; refine (sin _ _ _ _).mono ?_; rintro e w2 ⟨rfl, hw⟩; subst w2; rw [hi])
              go_ret
              exact ⟨ret_bool (unhide HV).symm, (Below.refl _ _).alloc (Nat.le_refl _) _⟩
            · have HF2 : Hid (∀ q (h : q < t.size), q < k2 + 1 → inB (t[q].toNat : Int) 32 126 = true) := fun q h hq => by
                by_cases e : q = k2
                · subst e; exact hi
                · exact unhide HF q h (by omega)
              clear HF
              go_wp2_with (go_at_call 43; refine (sin _ _ _ _).mono ?_; rintro e w2 ⟨rfl, hw⟩; subst w2; rw [hi])
              go_roundw
              case rel => exact ⟨k2 + 1, by omega, by go_num, by first | rfl | trivial, HF2⟩
              case measure => simp [intOf]; omega
          · have HT : Hid (titleB t.data.toList = true) := by
              show _ = _; unfold titleB; rw [text_take_all fun q hq => unhide HF q hq (by omega), text_len, decide_eq_true h40]; rfl
            clear HF
            by_cases h0 : len = 0
            · subst h0
              have HBR : Hid (bareB pr l = !pr) := by show _ = _; unfold bareB; rw [unhide HL]; rfl
              have HAR : Hid (argsB l = false) := by show _ = _; unfold argsB; rw [unhide HL]; rfl
              go_wp2_with (go_at_call 44; refine (sbegun u (unhide HU) _).mono ?_; rintro e w2 ⟨rfl, hw⟩; subst w2)
              all_goals
                go_ret
                refine ⟨ret_bool ?_, (Below.refl _ _).alloc (Nat.le_refl _) _⟩
                have hbr := unhide HBR
                have har := unhide HAR
                have htt := unhide HT
                clear HBR HT HAR
                rw [sparB_5, hbr, htt]
                simp_all [emp_eq]
            · have HBR : Hid (bareB pr l = false) := bare_not (by rw [unhide HL]; omega)
              have HAR : Hid (argsB l = true) := by show _ = _; unfold argsB; rw [unhide HA, unhide HL, decide_eq_true (by omega)]; rfl
              have hpos : 0 < len := by omega
              have hpos' : (0 : Int) < (len : Int) := by omega
              have hz : ((len : Int) == 0) = false := by rw [beq_eq_false_iff_ne]; omega
              clear h0
              go_wp2_with (go_at_call 44; refine (sbegun u (unhide HU) _).mono ?_; rintro e w2 ⟨rfl, hw⟩; subst w2)
              all_goals
                go_ret
                refine ⟨ret_bool ?_, (Below.refl _ _).alloc (Nat.le_refl _) _⟩
                have hbr := unhide HBR
                have har := unhide HAR
                have htt := unhide HT
                clear HBR HT HAR
                rw [sparB_5, hbr, htt]
                simp_all
  · have HV : Hid (parB 5 l pr t.data.toList u.data.toList = false) := par_title (title_long h40)
    have h40' : ¬ (t.size : Int) ≤ 40 := by omega
    clear hr hlen hl
    go_enter Tryd.func18, Tryd.ntmps18
    go_wp2_with (go_at_call 43; refine (sin _ _ _ _).mono ?_; rintro e w2 ⟨rfl, hw⟩; subst w2; rw [ho])
    go_ret
    exact ⟨ret_bool (unhide HV).symm, (Below.refl _ _).alloc (Nat.le_refl _) _⟩
set_option maxHeartbeats 400000 in
set_option maxRecDepth 100000 in
theorem spar_6 (pr : Bool) (a : Option Addr) (len cap : Nat) (l : List Int) (t u : ByteArray) (hlen : l.length = len) (hl : l.length ≤ 1048576) (ht : t.size ≤ 1048576) (hu : u.size ≤ 1048576) (w : World) (hr : RowV w a (cI l)) :
    Calls Tryd.prog 18 #[.agg #[.int .i64 6, .slice a len cap, .bool pr, .string t, .string u]] w fun e w' => e = .returned (.bool (parB 6 l pr t.data.toList u.data.toList)) ∧ Below w.heap.size w w' := by
  have ho : inB 6 0 6 = true := by decide
  have hle : len ≤ 1048576 := by omega
  by_cases h8 : 8 < len
  · have HV : Hid (parB 6 l pr t.data.toList u.data.toList = false) := par_args (args_long (by omega)) (bare_not (by omega))
    have h8' : (8 : Int) < (len : Int) := by omega
    clear hr hlen hl
    go_enter Tryd.func18, Tryd.ntmps18
    go_wp2_with (go_at_call 43; refine (sin _ _ _ _).mono ?_; rintro e w2 ⟨rfl, hw⟩; subst w2; rw [ho])
    go_ret
    exact ⟨ret_bool (unhide HV).symm, (Below.refl _ _).alloc (Nat.le_refl _) _⟩
  by_cases h40 : t.size ≤ 40
  · skip
    have HR := hide hr
    have HL := hide hlen
    have HU := hide hu
    clear hr hl hlen hu
    go_enter Tryd.func18, Tryd.ntmps18
    go_wp2_with (go_at_call 43; refine (sin _ _ _ _).mono ?_; rintro e w2 ⟨rfl, hw⟩; subst w2; rw [ho])
    go_loopw [3] (fun i wr => ∃ k : Nat, k ≤ len ∧ i = .int .i64 k ∧ wr = w.alloc (.cells #[.int .i64 6, .slice a len cap, .bool pr, .string t, .string u] 37) ∧ Hid (∀ q (h : q < l.length), q < k → inB l[q] (-1) 9999 = true)) (fun i _ => len - (intOf i).toNat)
    case atStart => exact ⟨0, by omega, rfl, rfl, fun q _ h => absurd h (Nat.not_lt_zero _)⟩
    case round =>
      obtain ⟨k, hk, rfl, rfl, HF⟩ := hrel
      by_cases hlt : k < len
      · have hltl : k < l.length := by rw [unhide HL]; exact hlt
        obtain ⟨b, off, ha, hblt, hc⟩ := (unhide HR).at (by rw [cI_len]; omega)
        subst ha
        have hc1 : w.cell? ⟨b, off + k, none⟩ = some (.int .i64 l[k]) := hc k _ (cI_at l k hltl)
        have hne : ¬ b = w.heap.size := by omega
        have hlt' : (k : Int) < (len : Int) := by omega
        obtain ⟨x, hx⟩ : ∃ x, x = l[k] := ⟨_, rfl⟩
        rw [← hx] at hc1
        cases hi : inB x (-1) 9999
        · have HV : Hid (parB 6 l pr t.data.toList u.data.toList = false) :=
            par_args (by unfold argsB; rw [args_bad hltl (by rw [← hx]; exact hi)]; simp) (bare_not (by omega))
          clear hc HR HF hx hltl
          go_wp2_with (go_at_call 43; refine (sin _ _ _ _).mono ?_; rintro e w2 ⟨rfl, hw⟩; subst w2; rw [hi])
          go_ret
          exact ⟨ret_bool (unhide HV).symm, (Below.refl _ _).alloc (Nat.le_refl _) _⟩
        · have HF2 : Hid (∀ q (h : q < l.length), q < k + 1 → inB l[q] (-1) 9999 = true) := fun q h hq => by
            by_cases e : q = k
            · subst e; rw [← hx]; exact hi
            · exact unhide HF q h (by omega)
          clear hc HR HF hx hltl
          go_wp2_with (go_at_call 43; refine (sin _ _ _ _).mono ?_; rintro e w2 ⟨rfl, hw⟩; subst w2; rw [hi])
          go_roundw
          case rel => exact ⟨k + 1, by omega, by go_num, by first | rfl | trivial, HF2⟩
          case measure => simp [intOf]; omega
      · have HA : Hid (allArgs l = true) := args_take_all fun q hq => unhide HF q hq (by have := unhide HL; omega)
        clear HR HF
        go_wp2_with fail
        go_loopw [4] (fun i wr => ∃ k : Nat, k ≤ t.size ∧ i = .int .i64 k ∧ wr = w.alloc (.cells #[.int .i64 6, .slice a len cap, .bool pr, .string t, .string u] 37) ∧ Hid (∀ q (h : q < t.size), q < k → inB (t[q].toNat : Int) 32 126 = true)) (fun i _ => t.size - (intOf i).toNat)
        case atStart => exact ⟨0, by omega, rfl, rfl, fun q _ h => absurd h (Nat.not_lt_zero _)⟩
        case round =>
          obtain ⟨k2, hk2, rfl, rfl, HF⟩ := hrel
          by_cases hlt2 : k2 < t.size
          · have hlt' : (k2 : Int) < (t.size : Int) := by omega
            have hb : (t[k2].toNat : Int) ≤ 255 := by have := t[k2].toNat_lt; omega
            cases hi : inB (t[k2].toNat : Int) 32 126
            · have HV : Hid (parB 6 l pr t.data.toList u.data.toList = false) := par_title (by unfold titleB; rw [text_bad hlt2 hi]; simp)
              clear HF
              go_wp2_with (go_at_call 43; refine (sin _ _ _ _).mono ?_; rintro e w2 ⟨rfl, hw⟩; subst w2; rw [hi])
              go_ret
              exact ⟨ret_bool (unhide HV).symm, (Below.refl _ _).alloc (Nat.le_refl _) _⟩
            · have HF2 : Hid (∀ q (h : q < t.size), q < k2 + 1 → inB (t[q].toNat : Int) 32 126 = true) := fun q h hq => by
                by_cases e : q = k2
                · subst e; exact hi
                · exact unhide HF q h (by omega)
              clear HF
              go_wp2_with (go_at_call 43; refine (sin _ _ _ _).mono ?_; rintro e w2 ⟨rfl, hw⟩; subst w2; rw [hi])
              go_roundw
              case rel => exact ⟨k2 + 1, by omega, by go_num, by first | rfl | trivial, HF2⟩
              case measure => simp [intOf]; omega
          · have HT : Hid (titleB t.data.toList = true) := by
              show _ = _; unfold titleB; rw [text_take_all fun q hq => unhide HF q hq (by omega), text_len, decide_eq_true h40]; rfl
            clear HF
            by_cases h0 : len = 0
            · subst h0
              have HBR : Hid (bareB pr l = !pr) := by show _ = _; unfold bareB; rw [unhide HL]; rfl
              have HAR : Hid (argsB l = false) := by show _ = _; unfold argsB; rw [unhide HL]; rfl
              go_wp2_with (go_at_call 44; refine (sbegun u (unhide HU) _).mono ?_; rintro e w2 ⟨rfl, hw⟩; subst w2)
              all_goals
                go_ret
                refine ⟨ret_bool ?_, (Below.refl _ _).alloc (Nat.le_refl _) _⟩
                have hbr := unhide HBR
                have har := unhide HAR
                have htt := unhide HT
                clear HBR HT HAR
                rw [sparB_6, hbr, htt]
                simp_all [emp_eq]
            · have HBR : Hid (bareB pr l = false) := bare_not (by rw [unhide HL]; omega)
              have HAR : Hid (argsB l = true) := by show _ = _; unfold argsB; rw [unhide HA, unhide HL, decide_eq_true (by omega)]; rfl
              have hpos : 0 < len := by omega
              have hpos' : (0 : Int) < (len : Int) := by omega
              have hz : ((len : Int) == 0) = false := by rw [beq_eq_false_iff_ne]; omega
              clear h0
              go_wp2_with (go_at_call 44; refine (sbegun u (unhide HU) _).mono ?_; rintro e w2 ⟨rfl, hw⟩; subst w2)
              all_goals
                go_ret
                refine ⟨ret_bool ?_, (Below.refl _ _).alloc (Nat.le_refl _) _⟩
                have hbr := unhide HBR
                have har := unhide HAR
                have htt := unhide HT
                clear HBR HT HAR
                rw [sparB_6, hbr, htt]
                simp_all
  · have HV : Hid (parB 6 l pr t.data.toList u.data.toList = false) := par_title (title_long h40)
    have h40' : ¬ (t.size : Int) ≤ 40 := by omega
    clear hr hlen hl
    go_enter Tryd.func18, Tryd.ntmps18
    go_wp2_with (go_at_call 43; refine (sin _ _ _ _).mono ?_; rintro e w2 ⟨rfl, hw⟩; subst w2; rw [ho])
    go_ret
    exact ⟨ret_bool (unhide HV).symm, (Below.refl _ _).alloc (Nat.le_refl _) _⟩
theorem sparok (st : Int) (pr : Bool) (a : Option Addr) (len cap : Nat) (l : List Int) (t u : ByteArray) (hlen : l.length = len) (hl : l.length ≤ 1048576) (ht : t.size ≤ 1048576) (hu : u.size ≤ 1048576) (w : World) (hr : RowV w a (cI l)) :
    Calls Tryd.prog 18 #[.agg #[.int .i64 st, .slice a len cap, .bool pr, .string t, .string u]] w fun e w' => e = .returned (.bool (parB st l pr t.data.toList u.data.toList)) ∧ Below w.heap.size w w' := by
  cases ho : inB st 0 6
  · exact spar_out st ho pr a len cap l t u hlen hl ht hu w hr
  have ho' := in_yes' ho
  obtain rfl | rfl | rfl | rfl | rfl | rfl | rfl : st = 0 ∨ st = 1 ∨ st = 2 ∨ st = 3 ∨ st = 4 ∨ st = 5 ∨ st = 6 := by omega
  · exact spar_0 pr a len cap l t u hlen hl ht hu w hr
  · exact spar_1 pr a len cap l t u hlen hl ht hu w hr
  · exact spar_2 pr a len cap l t u hlen hl ht hu w hr
  · exact spar_3 pr a len cap l t u hlen hl ht hu w hr
  · exact spar_4 pr a len cap l t u hlen hl ht hu w hr
  · exact spar_5 pr a len cap l t u hlen hl ht hu w hr
  · exact spar_6 pr a len cap l t u hlen hl ht hu w hr
end Go.Proofs.YtolbmblffogloabDoor
