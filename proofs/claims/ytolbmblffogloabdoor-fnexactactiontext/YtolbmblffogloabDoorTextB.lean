/- byteText, l03Utf, l00Digits: a byte, a rune and a number as a text. -/
import Derived.Test.YtolbmblffogloabDoorTextM
import Derived.Test.YtolbmblffogloabDoorActL
namespace Go.Proofs.YtolbmblffogloabDoor
open Go.ChangeShapes Go.WideShapes Go.ChangeAt Go.RowKit
set_option linter.unusedVariables false
set_option maxHeartbeats 400000 in
set_option maxRecDepth 100000 in
theorem ibyte (n : Int) (h0 : 0 ≤ n) (h1 : n ≤ 255) (w : World) : Calls Tryd.prog 62 #[.int .i64 n] w fun e w' => e = .returned (.string ⟨#[ub n]⟩) ∧ Below w.heap.size w w' := by
  have hw := wrap8 n h0 h1
  have hv := conv1 w n h0 h1
  go_enter Tryd.func62, Tryd.ntmps62
  go_wp2_with fail
  go_ret
  exact ⟨rfl, (Below.refl _ _).alloc (Nat.le_refl _) _⟩
theorem enc2 {n : Int} (hv : Utf8.valid n = true) (h : 128 ≤ n) (h2 : n < 2048) : Utf8.encode n = ⟨#[ub (192 + n / 64), ub (128 + n % 64)]⟩ := by
  unfold Utf8.encode ub
  rw [hv]
  simp only [if_true]
  rw [if_neg (by omega), if_pos (by omega)]
  rw [show (192 + n / 64).toNat = 192 + n.toNat / 64 by omega, show (128 + n % 64).toNat = 128 + n.toNat % 64 by omega]
theorem enc3 {n : Int} (hv : Utf8.valid n = true) (h : 2048 ≤ n) (h2 : n < 65536) : Utf8.encode n = ⟨#[ub (224 + n / 4096), ub (128 + n / 64 % 64), ub (128 + n % 64)]⟩ := by
  unfold Utf8.encode ub
  rw [hv]
  simp only [if_true]
  rw [if_neg (by omega), if_neg (by omega), if_pos (by omega)]
  rw [show (224 + n / 4096).toNat = 224 + n.toNat / 4096 by omega, show (128 + n / 64 % 64).toNat = 128 + n.toNat / 64 % 64 by omega, show (128 + n % 64).toNat = 128 + n.toNat % 64 by omega]
theorem enc4 {n : Int} (hv : Utf8.valid n = true) (h : 65536 ≤ n) (h2 : n ≤ 1114111) : Utf8.encode n = ⟨#[ub (240 + n / 262144), ub (128 + n / 4096 % 64), ub (128 + n / 64 % 64), ub (128 + n % 64)]⟩ := by
  unfold Utf8.encode ub
  rw [hv]
  simp only [if_true]
  rw [if_neg (by omega), if_neg (by omega), if_neg (by omega)]
  rw [show (240 + n / 262144).toNat = 240 + n.toNat / 262144 by omega, show (128 + n / 4096 % 64).toNat = 128 + n.toNat / 4096 % 64 by omega, show (128 + n / 64 % 64).toNat = 128 + n.toNat / 64 % 64 by omega, show (128 + n % 64).toNat = 128 + n.toNat % 64 by omega]
set_option maxHeartbeats 400000 in
set_option maxRecDepth 100000 in
theorem sutf (n : Int) (hr : runeB n = true) (w : World) : Calls Tryd.prog 89 #[.int .i64 n] w fun e w' => e = .returned (.string (Utf8.encode n)) ∧ Below w.heap.size w w' := by
  have hv := rune_valid hr
  have hb := of_decide_eq_true hr
  have l0 : 32 ≤ n := hb.1
  have l1 : n ≤ 1114111 := hb.2.1
  clear hb hr
  by_cases c1 : n < 128
  · have HV := hide (enc_small (by omega) c1)
    have hw := wrap8 n (by omega) (by omega)
    have hc := conv1 w n (by omega) (by omega)
    clear hv
    go_enter Tryd.func89, Tryd.ntmps89
    go_wp2_with fail
    go_ret
    exact ⟨ret_string (unhide HV).symm, (Below.refl _ _).alloc (Nat.le_refl _) _⟩
  by_cases c2 : n < 2048
  · have HV := hide (enc2 hv (by omega) c2)
    have d1 : n.tdiv 64 = n / 64 := Int.tdiv_eq_ediv_of_nonneg (by omega)
    have d2 : n.tmod 64 = n % 64 := Int.tmod_eq_emod_of_nonneg (by omega)
    have hw := wrap8 (192 + n / 64) (by omega) (by omega)
    have hw2 := wrap8 (128 + n % 64) (by omega) (by omega)
    have hc := conv2 w (192 + n / 64) (128 + n % 64) (by omega) (by omega) (by omega) (by omega)
    clear hv
    go_enter Tryd.func89, Tryd.ntmps89
    go_wp2_with fail
    go_ret
    exact ⟨ret_string (unhide HV).symm, (Below.refl _ _).alloc (Nat.le_refl _) _⟩
  by_cases c3 : n < 65536
  · have HV := hide (enc3 hv (by omega) c3)
    have hw := wrap8 (224 + n / 4096) (by omega) (by omega)
    have hw1 := wrap8 (128 + n / 64 % 64) (by omega) (by omega)
    have hw2 := wrap8 (128 + n % 64) (by omega) (by omega)
    have hc := conv3 w (224 + n / 4096) (128 + n / 64 % 64) (128 + n % 64) (by omega) (by omega) (by omega) (by omega) (by omega) (by omega)
    clear hv
    go_enter Tryd.func89, Tryd.ntmps89
    go_wp2_with fail
    go_ret
    exact ⟨ret_string (unhide HV).symm, (Below.refl _ _).alloc (Nat.le_refl _) _⟩
  · have HV := hide (enc4 hv (by omega) l1)
    have hw := wrap8 (240 + n / 262144) (by omega) (by omega)
    have hw0 := wrap8 (128 + n / 4096 % 64) (by omega) (by omega)
    have hw1 := wrap8 (128 + n / 64 % 64) (by omega) (by omega)
    have hw2 := wrap8 (128 + n % 64) (by omega) (by omega)
    have hc := conv4 w (240 + n / 262144) (128 + n / 4096 % 64) (128 + n / 64 % 64) (128 + n % 64) (by omega) (by omega) (by omega) (by omega) (by omega) (by omega) (by omega) (by omega)
    clear hv
    go_enter Tryd.func89, Tryd.ntmps89
    go_wp2_with fail
    go_ret
    exact ⟨ret_string (unhide HV).symm, (Below.refl _ _).alloc (Nat.le_refl _) _⟩
end Go.Proofs.YtolbmblffogloabDoor
