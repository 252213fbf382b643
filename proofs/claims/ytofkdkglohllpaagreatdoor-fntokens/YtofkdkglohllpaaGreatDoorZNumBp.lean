/- l00Number: what the specification answers. -/
import Derived.Test.YtofkdkglohllpaaGreatDoorZNumM2
namespace Go.Proofs.YtofkdkglohllpaaGreatDoor
open Go.ChangeShapes Go.WideShapes Go.ChangeAt Go.RowKit
set_option linter.unusedVariables false
set_option maxHeartbeats 4000000 in
set_option maxRecDepth 100000 in
theorem snumB_pos (s : ByteArray) (HS : Hid (s.size ≤ 65536)) (NA : Hid (NvAt s s false)) (s1 : (0 : Int) < (s.size : Int)) (s2 : 0 < s.size) (g1 : ((s[0].toNat : Int) == 45) = false) (b : Bool) (Hb : Hid (b = nvB s.data.toList)) (x : Int) (HX : Hid (x = if b then nvV s.data.toList else 0)) (w : World) :
    Calls Tryz.prog 40 #[.string s] w fun e w' => e = .returned (.tuple #[.int .i64 x, .bool b]) ∧ w' = w := by
  have hs6 := unhide HS
  obtain ⟨d, hd⟩ : ∃ d, d = s := ⟨_, rfl⟩
  subst hd
  by_cases z0 : d.size = 0
  · have z1 : ((d.size : Int) == 0) = true := by simp [z0]
    have hb : b = false := by rw [unhide Hb]; exact nv_zero (unhide NA) z0
    subst hb
    have hx : x = 0 := unhide HX
    subst hx
    clear Hb HX
    clear z0
    go_enter Tryz.func40, Tryz.ntmps40
    go_wp2_with fail
    go_ret2
    exact ⟨rfl, rfl⟩
  have z1 : ((d.size : Int) == 0) = false := by simp [z0]
  by_cases z2 : 18 < d.size
  · have z3 : (18 : Int) < (d.size : Int) := by omega
    have hb : b = false := by rw [unhide Hb]; exact nv_long (unhide NA) z2
    subst hb
    have hx : x = 0 := unhide HX
    subst hx
    clear Hb HX
    clear z0
    go_enter Tryz.func40, Tryz.ntmps40
    go_wp2_with fail
    go_ret2
    exact ⟨rfl, rfl⟩
  have z3 : ¬ (18 : Int) < (d.size : Int) := by omega
  have z4 : 0 < d.size := by omega
  have z5 : (0 : Int) < (d.size : Int) := by omega
  by_cases y0 : d[0].toNat = 48
  · have y1 : ((d[0].toNat : Int) == 48) = true := by simp [y0]
    by_cases y2 : 1 < d.size
    · have y3 : (1 : Int) < (d.size : Int) := by omega
      have hb : b = false := by rw [unhide Hb]; exact nv_nought (unhide NA) z4 y0 (.inl y2)
      subst hb
      have hx : x = 0 := unhide HX
      subst hx
      clear Hb HX
      clear y0 z0
      go_enter Tryz.func40, Tryz.ntmps40
      go_wp2_with fail
      go_ret2
      exact ⟨rfl, rfl⟩
    · have y3 : ¬ (1 : Int) < (d.size : Int) := by omega
      have HN := hide (show NvOk d false from fun _ => by rintro ⟨_, h | h⟩; exact y2 h; cases h)
      clear y0 z0
      go_enter Tryz.func40, Tryz.ntmps40
      go_wp2_with fail
      have z6 : d.size ≤ 18 := by omega
      go_loop [5, 6] (fun n0 i => ∃ (k v : Nat), k ≤ d.size ∧ i = .int .i64 (k : Int) ∧ n0 = .int .i64 (v : Int) ∧ Hid (v = valD (d.data.toList.take k)) ∧ Hid (digL (d.data.toList.take k) = true)) (fun _ i => d.size - (intOf i).toNat)
      case atStart => exact ⟨0, 0, by omega, rfl, rfl, rfl, rfl⟩
      case round =>
        obtain ⟨k, v, hk, rfl, rfl, HV, HD⟩ := hrel
        have HVB : Hid (v < 1000000000000000000) := by show _ < _; rw [unhide HV]; exact val_bd d k (by omega) (unhide HD)
        by_cases hlt : k < d.size
        · have hlt' : (k : Int) < (d.size : Int) := by omega
          by_cases b1 : d[k].toNat < 48
          · have b2 : (d[k].toNat : Int) < 48 := by omega
            have hb : b = false := by rw [unhide Hb]; exact nv_bad (unhide NA) k hlt (.inl b1)
            subst hb
            have hx : x = 0 := unhide HX
            subst hx
            clear Hb HX
            clear b1
            go_wp2_with fail
            go_ret2
            exact ⟨rfl, rfl⟩
          have b2 : ¬ (d[k].toNat : Int) < 48 := by omega
          by_cases b3 : 57 < d[k].toNat
          · have b4 : (57 : Int) < (d[k].toNat : Int) := by omega
            have hb : b = false := by rw [unhide Hb]; exact nv_bad (unhide NA) k hlt (.inr b3)
            subst hb
            have hx : x = 0 := unhide HX
            subst hx
            clear Hb HX
            clear b1 b3
            go_wp2_with fail
            go_ret2
            exact ⟨rfl, rfl⟩
          have b4 : ¬ (57 : Int) < (d[k].toNat : Int) := by omega
          have HVC : Hid (v < 100000000000000000) := by show _ < _; rw [unhide HV]; exact val_bd17 d k (by omega) (unhide HD)
          obtain ⟨y, hy⟩ : ∃ y, y = d[k].toNat := ⟨_, rfl⟩
          obtain ⟨a0, ha⟩ : ∃ a0, a0 = v * 10 := ⟨_, rfl⟩
          obtain ⟨c0, hc⟩ : ∃ c0, c0 = a0 + d[k].toNat := ⟨_, rfl⟩
          obtain ⟨v2, hv2⟩ : ∃ v2, v2 = c0 - 48 := ⟨_, rfl⟩
          have HY : Hid (y = d[k].toNat) := hy
          have e1 : wrap64 ((v : Int) * 10) = (a0 : Int) := num_e1 (unhide HVC) ha
          have e2 : wrap64 ((a0 : Int) + (d[k].toNat : Int)) = (c0 : Int) := num_e2 (unhide HVC) ha hc (Nat.lt_succ_of_le (Nat.le_of_not_lt b3))
          have e3 : wrap64 ((c0 : Int) - 48) = (v2 : Int) := num_e3 (unhide HVC) ha hc hv2 (Nat.le_of_not_lt b1) (Nat.lt_succ_of_le (Nat.le_of_not_lt b3))
          have HD2 : Hid (digL (d.data.toList.take (k + 1)) = true) := num_d2 hlt (unhide HD) (Nat.le_of_not_lt b1) (Nat.lt_succ_of_le (Nat.le_of_not_lt b3)) (take_snoc8 d k hlt)
          have HV2 : Hid (v2 = valD (d.data.toList.take (k + 1))) := num_v2 hlt (unhide HV) ha hc hv2 (Nat.le_of_not_lt b1) (take_snoc8 d k hlt)
          clear b1 b3 hy ha hc hv2
          go_wp2_with fail
          go_round
          case rel => exact ⟨k + 1, v2, by omega, by go_num, by first | rfl | rw [e3], HV2, HD2⟩
          case measure => simp [intOf]; omega
        · obtain rfl : k = d.size := by omega
          obtain ⟨g1, g2⟩ := nv_good (unhide NA) z4 z6 (unhide HN) (unhide HD)
          have hb : b = true := by rw [unhide Hb]; exact g1
          subst hb
          have hx : x = (v : Int) := by rw [unhide HX, g2, unhide HV]; rfl
          have HXX := hide hx
          have e4 : wrap64 ((v : Int)) = (v : Int) := num_e4 (unhide HVB)
          clear hlt g1 g2 hx HX Hb
          go_wp2_with fail
          go_ret2
          refine ⟨?_, rfl⟩
          rw [unhide HXX]
          first | rfl | (show Ending.returned (.tuple #[.int .i64 (wrap64 ((v : Int))), _]) = _; rw [e4])
  · have y1 : ((d[0].toNat : Int) == 48) = false := by simp; omega
    have HN := hide (show NvOk d false from fun _ h => y0 h.1)
    clear y0 z0
    go_enter Tryz.func40, Tryz.ntmps40
    go_wp2_with fail
    have z6 : d.size ≤ 18 := by omega
    go_loop [5, 6] (fun n0 i => ∃ (k v : Nat), k ≤ d.size ∧ i = .int .i64 (k : Int) ∧ n0 = .int .i64 (v : Int) ∧ Hid (v = valD (d.data.toList.take k)) ∧ Hid (digL (d.data.toList.take k) = true)) (fun _ i => d.size - (intOf i).toNat)
    case atStart => exact ⟨0, 0, by omega, rfl, rfl, rfl, rfl⟩
    case round =>
      obtain ⟨k, v, hk, rfl, rfl, HV, HD⟩ := hrel
      have HVB : Hid (v < 1000000000000000000) := by show _ < _; rw [unhide HV]; exact val_bd d k (by omega) (unhide HD)
      by_cases hlt : k < d.size
      · have hlt' : (k : Int) < (d.size : Int) := by omega
        by_cases b1 : d[k].toNat < 48
        · have b2 : (d[k].toNat : Int) < 48 := by omega
          have hb : b = false := by rw [unhide Hb]; exact nv_bad (unhide NA) k hlt (.inl b1)
          subst hb
          have hx : x = 0 := unhide HX
          subst hx
          clear Hb HX
          clear b1
          go_wp2_with fail
          go_ret2
          exact ⟨rfl, rfl⟩
        have b2 : ¬ (d[k].toNat : Int) < 48 := by omega
        by_cases b3 : 57 < d[k].toNat
        · have b4 : (57 : Int) < (d[k].toNat : Int) := by omega
          have hb : b = false := by rw [unhide Hb]; exact nv_bad (unhide NA) k hlt (.inr b3)
          subst hb
          have hx : x = 0 := unhide HX
          subst hx
          clear Hb HX
          clear b1 b3
          go_wp2_with fail
          go_ret2
          exact ⟨rfl, rfl⟩
        have b4 : ¬ (57 : Int) < (d[k].toNat : Int) := by omega
        have HVC : Hid (v < 100000000000000000) := by show _ < _; rw [unhide HV]; exact val_bd17 d k (by omega) (unhide HD)
        obtain ⟨y, hy⟩ : ∃ y, y = d[k].toNat := ⟨_, rfl⟩
        obtain ⟨a0, ha⟩ : ∃ a0, a0 = v * 10 := ⟨_, rfl⟩
        obtain ⟨c0, hc⟩ : ∃ c0, c0 = a0 + d[k].toNat := ⟨_, rfl⟩
        obtain ⟨v2, hv2⟩ : ∃ v2, v2 = c0 - 48 := ⟨_, rfl⟩
        have HY : Hid (y = d[k].toNat) := hy
        have e1 : wrap64 ((v : Int) * 10) = (a0 : Int) := num_e1 (unhide HVC) ha
        have e2 : wrap64 ((a0 : Int) + (d[k].toNat : Int)) = (c0 : Int) := num_e2 (unhide HVC) ha hc (Nat.lt_succ_of_le (Nat.le_of_not_lt b3))
        have e3 : wrap64 ((c0 : Int) - 48) = (v2 : Int) := num_e3 (unhide HVC) ha hc hv2 (Nat.le_of_not_lt b1) (Nat.lt_succ_of_le (Nat.le_of_not_lt b3))
        have HD2 : Hid (digL (d.data.toList.take (k + 1)) = true) := num_d2 hlt (unhide HD) (Nat.le_of_not_lt b1) (Nat.lt_succ_of_le (Nat.le_of_not_lt b3)) (take_snoc8 d k hlt)
        have HV2 : Hid (v2 = valD (d.data.toList.take (k + 1))) := num_v2 hlt (unhide HV) ha hc hv2 (Nat.le_of_not_lt b1) (take_snoc8 d k hlt)
        clear b1 b3 hy ha hc hv2
        go_wp2_with fail
        go_round
        case rel => exact ⟨k + 1, v2, by omega, by go_num, by first | rfl | rw [e3], HV2, HD2⟩
        case measure => simp [intOf]; omega
      · obtain rfl : k = d.size := by omega
        obtain ⟨g1, g2⟩ := nv_good (unhide NA) z4 z6 (unhide HN) (unhide HD)
        have hb : b = true := by rw [unhide Hb]; exact g1
        subst hb
        have hx : x = (v : Int) := by rw [unhide HX, g2, unhide HV]; rfl
        have HXX := hide hx
        have e4 : wrap64 ((v : Int)) = (v : Int) := num_e4 (unhide HVB)
        clear hlt g1 g2 hx HX Hb
        go_wp2_with fail
        go_ret2
        refine ⟨?_, rfl⟩
        rw [unhide HXX]
        first | rfl | (show Ending.returned (.tuple #[.int .i64 (wrap64 ((v : Int))), _]) = _; rw [e4])
end Go.Proofs.YtofkdkglohllpaaGreatDoor
