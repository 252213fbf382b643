/- l03Utf: a rune as a text. -/
import Derived.Test.YtjdkafcplnghlaaInM
import Derived.Test.YtjdkafcplnghlaaRowV
namespace Go.Proofs.Ytjdkafcplnghlaa
open Go.ChangeShapes Go.WideShapes Go.ChangeAt Go.RowKit
set_option linter.unusedVariables false
def ub (n : Int) : UInt8 := UInt8.ofNat n.toNat
theorem ub_val {n : Int} (h0 : 0 ≤ n) (h1 : n ≤ 255) : ((ub n).toNat : Int) = n := by unfold ub; rw [UInt8.toNat_ofNat']; omega
theorem enc_small {n : Int} (h0 : 0 ≤ n) (h : n < 128) : Utf8.encode n = ⟨#[ub n]⟩ := by
  have hv : Utf8.valid n = true := by unfold Utf8.valid; simp; omega
  unfold Utf8.encode ub
  rw [hv]
  simp only [if_true]
  rw [if_pos (by omega)]
theorem rune_valid {n : Int} (h : runeB n = true) : Utf8.valid n = true := by
  unfold runeB at h; have := of_decide_eq_true h
  unfold Utf8.valid; simp; omega
theorem conv_bytes (w : World) (l : List UInt8) (hl : 0 < l.length) : (convert 57 9 (.slice (some ⟨w.heap.size, 0, none⟩) l.length l.length)).run Try.prog (w.alloc (.cells (B8 l).toArray 5)) = .ok (.string ⟨l.toArray⟩) (w.alloc (.cells (B8 l).toArray 5)) := by
  refine conv_row8 (P := Try.prog) Try.underlying57 Try.underlying5 Try.underlying9 (.inr ⟨w.heap.size, 0, rfl, by simp, fun i hi => ?_⟩)
  have h := news_new w (B8 l) 5 i (.int .u8 (l[i].toNat : Int)) (by simp [B8, List.getElem?_eq_getElem hi])
  rw [show (⟨w.heap.size, 0, none⟩ : Addr).add i = ⟨w.heap.size, 0 + i, none⟩ from by unfold Addr.add; split <;> simp_all] at h
  exact h
theorem conv1 (w : World) (n : Int) (h0 : 0 ≤ n) (h1 : n ≤ 255) : (convert 57 9 (.slice (some ⟨w.heap.size, 0, none⟩) 1 1)).run Try.prog (w.alloc (.cells #[.int .u8 n] 5)) = .ok (.string ⟨#[ub n]⟩) (w.alloc (.cells #[.int .u8 n] 5)) := by
  have h := conv_bytes w [ub n] (by simp)
  have e : (B8 [ub n]).toArray = #[.int .u8 n] := by unfold B8; simp [ub_val h0 h1]
  rw [e] at h; exact h
theorem conv2 (w : World) (n m : Int) (h0 : 0 ≤ n) (h1 : n ≤ 255) (m0 : 0 ≤ m) (m1 : m ≤ 255) : (convert 57 9 (.slice (some ⟨w.heap.size, 0, none⟩) 2 2)).run Try.prog (w.alloc (.cells #[.int .u8 n, .int .u8 m] 5)) = .ok (.string ⟨#[ub n, ub m]⟩) (w.alloc (.cells #[.int .u8 n, .int .u8 m] 5)) := by
  have h := conv_bytes w [ub n, ub m] (by simp)
  have e : (B8 [ub n, ub m]).toArray = #[.int .u8 n, .int .u8 m] := by unfold B8; simp [ub_val h0 h1, ub_val m0 m1]
  rw [e] at h; exact h
theorem conv3 (w : World) (n m o : Int) (h0 : 0 ≤ n) (h1 : n ≤ 255) (m0 : 0 ≤ m) (m1 : m ≤ 255) (o0 : 0 ≤ o) (o1 : o ≤ 255) : (convert 57 9 (.slice (some ⟨w.heap.size, 0, none⟩) 3 3)).run Try.prog (w.alloc (.cells #[.int .u8 n, .int .u8 m, .int .u8 o] 5)) = .ok (.string ⟨#[ub n, ub m, ub o]⟩) (w.alloc (.cells #[.int .u8 n, .int .u8 m, .int .u8 o] 5)) := by
  have h := conv_bytes w [ub n, ub m, ub o] (by simp)
  have e : (B8 [ub n, ub m, ub o]).toArray = #[.int .u8 n, .int .u8 m, .int .u8 o] := by unfold B8; simp [ub_val h0 h1, ub_val m0 m1, ub_val o0 o1]
  rw [e] at h; exact h
theorem conv4 (w : World) (n m o p : Int) (h0 : 0 ≤ n) (h1 : n ≤ 255) (m0 : 0 ≤ m) (m1 : m ≤ 255) (o0 : 0 ≤ o) (o1 : o ≤ 255) (p0 : 0 ≤ p) (p1 : p ≤ 255) : (convert 57 9 (.slice (some ⟨w.heap.size, 0, none⟩) 4 4)).run Try.prog (w.alloc (.cells #[.int .u8 n, .int .u8 m, .int .u8 o, .int .u8 p] 5)) = .ok (.string ⟨#[ub n, ub m, ub o, ub p]⟩) (w.alloc (.cells #[.int .u8 n, .int .u8 m, .int .u8 o, .int .u8 p] 5)) := by
  have h := conv_bytes w [ub n, ub m, ub o, ub p] (by simp)
  have e : (B8 [ub n, ub m, ub o, ub p]).toArray = #[.int .u8 n, .int .u8 m, .int .u8 o, .int .u8 p] := by unfold B8; simp [ub_val h0 h1, ub_val m0 m1, ub_val o0 o1, ub_val p0 p1]
  rw [e] at h; exact h
theorem enc2 {n : Int} (hv : Utf8.valid n = true) (h : 128 ≤ n) (h2 : n < 2048) : Utf8.encode n = ⟨#[ub (192 + n / 64), ub (128 + n % 64)]⟩ := by
  unfold Utf8.encode ub
  rw [hv]
  simp only [if_true]
  rw [if_neg (by omega), if_pos (by omega)]
  rw [show (192 + n / 64).toNat = 192 + n.toNat / 64 by omega, show (128 + n % 64).toNat = 128 + n.toNat % 64 by omega]
theorem enc3 {n : Int} (hv : Utf8.valid n = true) (h : 2048 ≤ n) (h2 : n < 65536) : Utf8.encode n = ⟨#[ub (224 + n / 4096), ub (128 + n / 64 % 64), ub (128 + n % 64)]⟩ := by
  unfold Utf8.encode ub
  rw [hv]
  simp only [if_true]
  rw [if_neg (by omega), if_neg (by omega), if_pos (by omega)]
  rw [show (224 + n / 4096).toNat = 224 + n.toNat / 4096 by omega, show (128 + n / 64 % 64).toNat = 128 + n.toNat / 64 % 64 by omega, show (128 + n % 64).toNat = 128 + n.toNat % 64 by omega]
theorem enc4 {n : Int} (hv : Utf8.valid n = true) (h : 65536 ≤ n) (h2 : n ≤ 1114111) : Utf8.encode n = ⟨#[ub (240 + n / 262144), ub (128 + n / 4096 % 64), ub (128 + n / 64 % 64), ub (128 + n % 64)]⟩ := by
  unfold Utf8.encode ub
  rw [hv]
  simp only [if_true]
  rw [if_neg (by omega), if_neg (by omega), if_neg (by omega)]
  rw [show (240 + n / 262144).toNat = 240 + n.toNat / 262144 by omega, show (128 + n / 4096 % 64).toNat = 128 + n.toNat / 4096 % 64 by omega, show (128 + n / 64 % 64).toNat = 128 + n.toNat / 64 % 64 by omega, show (128 + n % 64).toNat = 128 + n.toNat % 64 by omega]
set_option maxHeartbeats 400000 in
set_option maxRecDepth 100000 in
theorem sutf (n : Int) (hr : runeB n = true) (w : World) : Calls Try.prog 22 #[.int .i64 n] w fun e w' => e = .returned (.string (Utf8.encode n)) ∧ Below w.heap.size w w' := by
  have hv := rune_valid hr
  have hb := of_decide_eq_true hr
  have l0 : 32 ≤ n := hb.1
  have l1 : n ≤ 1114111 := hb.2.1
  clear hb hr
  by_cases c1 : n < 128
  · have HV := hide (enc_small (by omega) c1)
    have hw := wrap8 n (by omega) (by omega)
    have hc := conv1 w n (by omega) (by omega)
    clear hv
    go_enter Try.func22, Try.ntmps22
    go_wp2_with fail
    go_ret
    exact ⟨ret_string (unhide HV).symm, (Below.refl _ _).alloc (Nat.le_refl _) _⟩
  by_cases c2 : n < 2048
  · have HV := hide (enc2 hv (by omega) c2)
    have d1 : n.tdiv 64 = n / 64 := Int.tdiv_eq_ediv_of_nonneg (by omega)
    have d2 : n.tmod 64 = n % 64 := Int.tmod_eq_emod_of_nonneg (by omega)
    have hw := wrap8 (192 + n / 64) (by omega) (by omega)
    have hw2 := wrap8 (128 + n % 64) (by omega) (by omega)
    have hc := conv2 w (192 + n / 64) (128 + n % 64) (by omega) (by omega) (by omega) (by omega)
    clear hv
    go_enter Try.func22, Try.ntmps22
    go_wp2_with fail
    go_ret
    exact ⟨ret_string (unhide HV).symm, (Below.refl _ _).alloc (Nat.le_refl _) _⟩
  by_cases c3 : n < 65536
  · have HV := hide (enc3 hv (by omega) c3)
    have hw := wrap8 (224 + n / 4096) (by omega) (by omega)
    have hw1 := wrap8 (128 + n / 64 % 64) (by omega) (by omega)
    have hw2 := wrap8 (128 + n % 64) (by omega) (by omega)
    have hc := conv3 w (224 + n / 4096) (128 + n / 64 % 64) (128 + n % 64) (by omega) (by omega) (by omega) (by omega) (by omega) (by omega)
    clear hv
    go_enter Try.func22, Try.ntmps22
    go_wp2_with fail
    go_ret
    exact ⟨ret_string (unhide HV).symm, (Below.refl _ _).alloc (Nat.le_refl _) _⟩
  · have HV := hide (enc4 hv (by omega) l1)
    have hw := wrap8 (240 + n / 262144) (by omega) (by omega)
    have hw0 := wrap8 (128 + n / 4096 % 64) (by omega) (by omega)
    have hw1 := wrap8 (128 + n / 64 % 64) (by omega) (by omega)
    have hw2 := wrap8 (128 + n % 64) (by omega) (by omega)
    have hc := conv4 w (240 + n / 262144) (128 + n / 4096 % 64) (128 + n / 64 % 64) (128 + n % 64) (by omega) (by omega) (by omega) (by omega) (by omega) (by omega) (by omega) (by omega)
    clear hv
    go_enter Try.func22, Try.ntmps22
    go_wp2_with fail
    go_ret
    exact ⟨ret_string (unhide HV).symm, (Below.refl _ _).alloc (Nat.le_refl _) _⟩
end Go.Proofs.Ytjdkafcplnghlaa
