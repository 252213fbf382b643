/- l00Digits: a number's digits. -/
import Derived.Test.YtmmnoepcklfonaaGreatDoorZG10
import Derived.Lib.ItoaNum
import Derived.Deep.RegionWith
namespace Go.Proofs.YtmmnoepcklfonaaGreatDoor
open Go.ChangeShapes Go.WideShapes Go.ChangeAt Go.RowKit
set_option linter.unusedVariables false
abbrev oDigS0 : Oper := { dst := some 20, op := .call { callee := .value (.func 78), args := #[.tmp 19], argTypes := #[3] }, type := 9, pos := "l00_codes.go:135", after := #[{ on := 1, ground := .data }], guard := none }
abbrev oDigS1 : Oper := { dst := some 25, op := .buildSlice 101 1 #[(0, .tmp 24)], type := 101, pos := "l00_codes.go:135", after := #[{ on := 6, ground := .data }], guard := none }
abbrev oDigS2 : Oper := { dst := some 26, op := .convert 101 9 (.tmp 25), type := 9, pos := "l00_codes.go:135", after := #[{ on := 7, ground := .data }], guard := none }
abbrev oDigS3 : Oper := { dst := some 27, op := .binOp .add 9 (.tmp 20) (.tmp 26) 9, type := 9, pos := "l00_codes.go:135", after := #[{ on := 2, ground := .data }, { on := 8, ground := .data }], guard := none }
abbrev oDigS4 : Oper := { dst := some 2, op := .assign (.tmp 27), type := 9, pos := "l00_codes.go:135", after := #[{ on := 9, ground := .data }, { on := 2, ground := .chain }, { on := 0, ground := .phase }, { on := 1, ground := .phase }, { on := 2, ground := .phase }, { on := 3, ground := .phase }, { on := 4, ground := .phase }, { on := 5, ground := .phase }, { on := 6, ground := .phase }, { on := 7, ground := .phase }, { on := 8, ground := .phase }, { on := 9, ground := .phase }], guard := none }
def ub (n : Int) : UInt8 := UInt8.ofNat n.toNat
theorem ub_val {n : Int} (h0 : 0 ≤ n) (h1 : n ≤ 255) : ((ub n).toNat : Int) = n := by unfold ub; rw [UInt8.toNat_ofNat']; omega
theorem conv_bytes (w : World) (l : List UInt8) (hl : 0 < l.length) : (convert 101 9 (.slice (some ⟨w.heap.size, 0, none⟩) l.length l.length)).run Tryz.prog (w.alloc (.cells (B8 l).toArray 5)) = .ok (.string ⟨l.toArray⟩) (w.alloc (.cells (B8 l).toArray 5)) := by
  refine conv_row8 (P := Tryz.prog) Tryz.underlying101 Tryz.underlying5 Tryz.underlying9 (.inr ⟨w.heap.size, 0, rfl, by simp, fun i hi => ?_⟩)
  have h := news_new w (B8 l) 5 i (.int .u8 (l[i].toNat : Int)) (by simp [B8, List.getElem?_eq_getElem hi])
  rw [show (⟨w.heap.size, 0, none⟩ : Addr).add i = ⟨w.heap.size, 0 + i, none⟩ from by unfold Addr.add; split <;> simp_all] at h
  exact h
theorem conv1 (w : World) (n : Int) (h0 : 0 ≤ n) (h1 : n ≤ 255) : (convert 101 9 (.slice (some ⟨w.heap.size, 0, none⟩) 1 1)).run Tryz.prog (w.alloc (.cells #[.int .u8 n] 5)) = .ok (.string ⟨#[ub n]⟩) (w.alloc (.cells #[.int .u8 n] 5)) := by
  have h := conv_bytes w [ub n] (by simp)
  have e : (B8 [ub n]).toArray = #[.int .u8 n] := by unfold B8; simp [ub_val h0 h1]
  rw [e] at h; exact h
theorem dig_small {u : Nat} (h : u < 10) : Lib.decDigits u = [UInt8.ofNat (48 + u)] := by rw [Lib.decDigits, dif_pos h]
theorem dig_more {u : Nat} (h : ¬ u < 10) : Lib.decDigits u = Lib.decDigits (u / 10) ++ [UInt8.ofNat (48 + u % 10)] := by rw [Lib.decDigits, dif_neg h]
theorem dig_len (u : Nat) (h : u < 10000) : (Lib.decDigits u).length ≤ 4 := by
  by_cases a : u < 10
  · rw [dig_small a]; simp
  by_cases b : u < 100
  · rw [dig_more a, dig_small (by omega)]; simp
  by_cases c : u < 1000
  · rw [dig_more a, dig_more (by omega), dig_small (by omega)]; simp
  · rw [dig_more a, dig_more (by omega), dig_more (by omega), dig_small (by omega)]; simp
def digS (n : Nat) : ByteArray := ⟨(Lib.decDigits n).toArray⟩
theorem digS_more {n : Nat} (h : ¬ n < 10) : digS n = digS (n / 10) ++ ⟨#[ub (48 + ((n % 10 : Nat) : Int))]⟩ := by
  unfold digS ub
  rw [dig_more h, show (48 + ((n % 10 : Nat) : Int)).toNat = 48 + n % 10 by omega]
  apply ByteArray.ext
  simp
theorem digS_small {n : Nat} (h : n < 10) : digS n = ⟨#[ub (48 + (n : Int))]⟩ := by
  unfold digS ub
  rw [dig_small h, show (48 + (n : Int)).toNat = 48 + n by omega]
theorem digS_size (n : Nat) (h : n < 10000) : (digS n).size ≤ 4 := by
  have := dig_len n h
  unfold digS
  simpa [ByteArray.size] using this
/-- The bytes that were made stay where other memory is made. -/
theorem conv1_after {w w2 : World} (x : Int) (h0 : 0 ≤ x) (h1 : x ≤ 255) (hb : Below (w.alloc (.cells #[.int .u8 x] 5)).heap.size (w.alloc (.cells #[.int .u8 x] 5)) w2) : (convert 101 9 (.slice (some ⟨w.heap.size, 0, none⟩) 1 1)).run Tryz.prog w2 = .ok (.string ⟨#[ub x]⟩) w2 := by
  refine conv_row8 (P := Tryz.prog) (l := [ub x]) Tryz.underlying101 Tryz.underlying5 Tryz.underlying9 (.inr ⟨w.heap.size, 0, rfl, Nat.lt_of_lt_of_le (by simp) hb.size, fun i hi => ?_⟩)
  obtain rfl : i = 0 := by simpa using hi
  rw [hb.cell (p := ⟨w.heap.size, 0 + 0, none⟩) (by simp)]
  rw [show ([ub x][0].toNat : Int) = x from ub_val h0 h1]
  exact World.cell?_alloc_mark w _ _ _ 0
theorem conv1_drew (w : World) (x : Int) (h0 : 0 ≤ x) (h1 : x ≤ 255) : (convert 101 9 (.slice (some ⟨w.heap.size, 0, none⟩) 1 1)).run Tryz.prog (w.alloc (.cells #[.int .u8 x] 5)).drew = .ok (.string ⟨#[ub x]⟩) (w.alloc (.cells #[.int .u8 x] 5)).drew :=
  conv1_after x h0 h1 (Below.refl _ _).drew
set_option maxHeartbeats 1000000 in
set_option maxRecDepth 100000 in
theorem sdig_step (n m r : Nat) (h10 : 10 ≤ n) (hn : n ≤ 9999) (hm : m = n / 10) (hr : r = n % 10) (ih : ∀ w, Calls Tryz.prog 78 #[.int .i64 (m : Int)] w fun e w' => e = .returned (.string (digS m)) ∧ Below w.heap.size w w') (w : World) :
    Calls Tryz.prog 78 #[.int .i64 (n : Int)] w fun e w' => e = .returned (.string (digS n)) ∧ Below w.heap.size w w' := by
  obtain ⟨x, hx⟩ : ∃ x : Int, x = 48 + (r : Int) := ⟨_, rfl⟩
  have HV : Hid (digS n = digS m ++ ⟨#[ub x]⟩) := by show _ = _; rw [digS_more (by omega), hm, hx, hr]
  have q1 : (n : Int) / 10 = (m : Int) := by omega
  have q1' : (n : Int).tdiv 10 = (m : Int) := by rw [Int.tdiv_eq_ediv_of_nonneg (by omega)]; exact q1
  have q2 : (n : Int) % 10 = (r : Int) := by omega
  have q2' : (n : Int).tmod 10 = (r : Int) := by rw [Int.tmod_eq_emod_of_nonneg (by omega)]; exact q2
  have q3 : IntKind.i64.wrap (48 + (r : Int)) = x := by rw [hx]; exact wrapi _ (by omega) (by omega)
  have q4 : IntKind.i64.wrap (m : Int) = (m : Int) := wrapi _ (by omega) (by omega)
  have q5 : IntKind.i64.wrap x = x := by rw [hx]; exact wrapi _ (by omega) (by omega)
  have q3' : 48 + (r : Int) = x := hx.symm
  have x0 : 0 ≤ x := by omega
  have x1 : x ≤ 255 := by omega
  have hw := wrap8 x x0 x1
  have hs : (digS m).size ≤ 4 := digS_size m (by omega)
  obtain ⟨D, hD⟩ : ∃ D, D = digS m := ⟨_, rfl⟩
  rw [← hD] at HV hs ih
  have hk : ¬ 9223372036854775807 < D.size + 1 := by omega
  have hc := fun w' => conv1 w' x x0 x1
  have hcd := fun w' => conv1_drew w' x x0 x1
  have n0 : ¬ (n : Int) < 0 := by omega
  have n1 : ¬ (n : Int) < 10 := by omega
  have n2 : ((n : Int) == -9223372036854775808) = false := by rw [beq_eq_false_iff_ne]; omega
  have hn' : (n : Int) ≤ 9999 := by omega
  have IH := hide ih
  clear ih hm hr hx hD
  go_enter Tryz.func78, Tryz.ntmps78
  go_wp2_with fail
  refine wp_region_held_drew (S := fun _ => True) (by kernel_rfl) trivial (fun hHeld => ?_)
  refine wtk (i := 0) (oi := { dst := some 18, op := .move (.tmp 0), type := 3, pos := "l00_codes.go:135", after := #[], guard := none }) (v := ?_) rfl (Or.inl ⟨by rfl, ?_⟩) trivial ?_
  rotate_left 1
  · (intro w' hSw; go_simp; try with_reducible rfl)
  try simp only [Act.put, qqA, qqB, qqC]
  refine wtk (i := 1) (oi := { dst := some 19, op := .binOp .quo 3 (.tmp 18) (.const (.int .i64 10)) 3, type := 3, pos := "l00_codes.go:135", after := #[{ on := 0, ground := .data }], guard := none }) (v := ?_) rfl (Or.inl ⟨by rfl, ?_⟩) trivial ?_
  rotate_left 1
  · (intro w' hSw; go_simp; try with_reducible rfl)
  try simp only [Act.put, qqA, qqB, qqC]
  refine wtk (i := 3) (oi := { dst := some 21, op := .move (.tmp 0), type := 3, pos := "l00_codes.go:135", after := #[], guard := none }) (v := ?_) rfl (Or.inl ⟨by rfl, ?_⟩) trivial ?_
  rotate_left 1
  · (intro w' hSw; go_simp; try with_reducible rfl)
  try simp only [Act.put, qqA, qqB, qqC]
  refine wtk (i := 4) (oi := { dst := some 22, op := .binOp .rem 3 (.tmp 21) (.const (.int .i64 10)) 3, type := 3, pos := "l00_codes.go:135", after := #[{ on := 3, ground := .data }], guard := none }) (v := ?_) rfl (Or.inl ⟨by rfl, ?_⟩) trivial ?_
  rotate_left 1
  · (intro w' hSw; go_simp; try with_reducible rfl)
  try simp only [Act.put, qqA, qqB, qqC]
  refine wtk (i := 5) (oi := { dst := some 23, op := .binOp .add 3 (.const (.int .i64 48)) (.tmp 22) 3, type := 3, pos := "l00_codes.go:135", after := #[{ on := 4, ground := .data }], guard := none }) (v := ?_) rfl (Or.inl ⟨by rfl, ?_⟩) trivial ?_
  rotate_left 1
  · (intro w' hSw; go_simp; try with_reducible rfl)
  try simp only [Act.put, qqA, qqB, qqC]
  refine wtk (i := 6) (oi := { dst := some 24, op := .convert 3 5 (.tmp 23), type := 5, pos := "l00_codes.go:135", after := #[{ on := 5, ground := .data }], guard := none }) (v := ?_) rfl (Or.inl ⟨by rfl, ?_⟩) trivial ?_
  rotate_left 1
  · (intro w' hSw; go_simp; try with_reducible rfl)
  try simp only [Act.put, qqA, qqB, qqC]
  refine wpAnyH_ready (rs := [2, 7]) (by kernel_rfl) (by simp) ?_
  refine AllReadyH.cons (o := oDigS0) rfl (fun K hK => ?_) ?_
  · go_simp
    refine ((unhide IH) _).mono ?_
    rintro e w2 ⟨rfl, hb⟩
    have HB := hide hb
    clear hb
    go_wp2_with fail
    refine hK.out _ _ trivial (fun _ => ?_)
    clear hK K
    try simp only [Act.put, qqA, qqB, qqC]
    refine wpAnyH_ready (rs := [7]) (by kernel_rfl) (by simp) ?_
    refine AllReadyH.cons (o := oDigS1) rfl (fun K hK => ?_) AllReadyH.nil
    go_simp
    refine hK.out _ _ trivial (fun _ => ?_)
    clear hK K
    try simp only [Act.put, qqA, qqB, qqC]
    refine wpAnyH_ready (rs := [8]) (by kernel_rfl) (by simp) ?_
    refine AllReadyH.cons (o := oDigS2) rfl (fun K hK => ?_) AllReadyH.nil
    go_simp
    refine hK.out _ _ trivial (fun _ => ?_)
    clear hK K
    try simp only [Act.put, qqA, qqB, qqC]
    refine wtk (i := 9) (oi := oDigS3) (v := ?_) rfl (Or.inl ⟨by rfl, ?_⟩) trivial ?_
    rotate_left 1
    · (intro w' hSw; go_simp; try with_reducible rfl)
    try simp only [Act.put, qqA, qqB, qqC]
    refine wtk (i := 10) (oi := oDigS4) (v := ?_) rfl (Or.inl ⟨by rfl, ?_⟩) trivial ?_
    rotate_left 1
    · (intro w' hSw; go_simp; try with_reducible rfl)
    try simp only [Act.put, qqA, qqB, qqC]
    refine wpAnyH_done (by kernel_rfl) ?_ _
    go_wp2_with fail
    go_ret
    exact ⟨ret_string (unhide HV).symm, (below_undrew (unhide HB)).alloc (below_undrew (unhide HB)).size _⟩
  refine AllReadyH.cons (o := oDigS1) rfl (fun K hK => ?_) ?_
  · go_simp
    refine hK.out _ _ trivial (fun _ => ?_)
    clear hK K
    try simp only [Act.put, qqA, qqB, qqC]
    refine wpAnyH_ready (rs := [2, 8]) (by kernel_rfl) (by simp) ?_
    refine AllReadyH.cons (o := oDigS0) rfl (fun K hK => ?_) ?_
    · go_simp
      refine ((unhide IH) _).mono ?_
      rintro e w2 ⟨rfl, hb⟩
      have HB := hide hb
      have hq2 := conv1_after x x0 x1 (below_undrew hb)
      clear hb
      go_wp2_with fail
      refine hK.out _ _ trivial (fun _ => ?_)
      clear hK K
      try simp only [Act.put, qqA, qqB, qqC]
      refine wpAnyH_ready (rs := [8]) (by kernel_rfl) (by simp) ?_
      refine AllReadyH.cons (o := oDigS2) rfl (fun K hK => ?_) AllReadyH.nil
      go_simp
      refine hK.out _ _ trivial (fun _ => ?_)
      clear hK K
      try simp only [Act.put, qqA, qqB, qqC]
      refine wtk (i := 9) (oi := oDigS3) (v := ?_) rfl (Or.inl ⟨by rfl, ?_⟩) trivial ?_
      rotate_left 1
      · (intro w' hSw; go_simp; try with_reducible rfl)
      try simp only [Act.put, qqA, qqB, qqC]
      refine wtk (i := 10) (oi := oDigS4) (v := ?_) rfl (Or.inl ⟨by rfl, ?_⟩) trivial ?_
      rotate_left 1
      · (intro w' hSw; go_simp; try with_reducible rfl)
      try simp only [Act.put, qqA, qqB, qqC]
      refine wpAnyH_done (by kernel_rfl) ?_ _
      go_wp2_with fail
      go_ret
      exact ⟨ret_string (unhide HV).symm, (((Below.refl _ _).drew).alloc (Nat.le_refl _) _).trans ((unhide HB).mono (by simp))⟩
    refine AllReadyH.cons (o := oDigS2) rfl (fun K hK => ?_) ?_
    · go_simp
      refine hK.out _ _ trivial (fun _ => ?_)
      clear hK K
      try simp only [Act.put, qqA, qqB, qqC]
      refine wpAnyH_ready (rs := [2]) (by kernel_rfl) (by simp) ?_
      refine AllReadyH.cons (o := oDigS0) rfl (fun K hK => ?_) AllReadyH.nil
      go_simp
      refine ((unhide IH) _).mono ?_
      rintro e w2 ⟨rfl, hb⟩
      have HB := hide hb
      clear hb
      go_wp2_with fail
      refine hK.out _ _ trivial (fun _ => ?_)
      clear hK K
      try simp only [Act.put, qqA, qqB, qqC]
      refine wtk (i := 9) (oi := oDigS3) (v := ?_) rfl (Or.inl ⟨by rfl, ?_⟩) trivial ?_
      rotate_left 1
      · (intro w' hSw; go_simp; try with_reducible rfl)
      try simp only [Act.put, qqA, qqB, qqC]
      refine wtk (i := 10) (oi := oDigS4) (v := ?_) rfl (Or.inl ⟨by rfl, ?_⟩) trivial ?_
      rotate_left 1
      · (intro w' hSw; go_simp; try with_reducible rfl)
      try simp only [Act.put, qqA, qqB, qqC]
      refine wpAnyH_done (by kernel_rfl) ?_ _
      go_wp2_with fail
      go_ret
      exact ⟨ret_string (unhide HV).symm, (((Below.refl _ _).drew).alloc (Nat.le_refl _) _).trans ((unhide HB).mono (by simp))⟩
    exact AllReadyH.nil
  exact AllReadyH.nil
set_option maxHeartbeats 400000 in
set_option maxRecDepth 100000 in
theorem sdig_small (n : Nat) (h : n < 10) (w : World) : Calls Tryz.prog 78 #[.int .i64 (n : Int)] w fun e w' => e = .returned (.string (digS n)) ∧ Below w.heap.size w w' := by
  have HV := hide (digS_small h)
  have x0 : 0 ≤ 48 + (n : Int) := by omega
  have x1 : 48 + (n : Int) ≤ 255 := by omega
  have hw := wrap8 (48 + (n : Int)) x0 x1
  have hc := conv1 w (48 + (n : Int)) x0 x1
  have n0 : ¬ (n : Int) < 0 := by omega
  have n1 : (n : Int) < 10 := by omega
  have n2 : ((n : Int) == -9223372036854775808) = false := by rw [beq_eq_false_iff_ne]; omega
  go_enter Tryz.func78, Tryz.ntmps78
  go_wp2_with fail
  go_ret
  exact ⟨ret_string (unhide HV).symm, (Below.refl _ _).alloc (Nat.le_refl _) _⟩
theorem sdig (n : Nat) (hn : n ≤ 9999) : ∀ w : World, Calls Tryz.prog 78 #[.int .i64 (n : Int)] w fun e w' => e = .returned (.string (digS n)) ∧ Below w.heap.size w w' := by
  induction n using Nat.strongRecOn with
  | ind n ih =>
    intro w
    by_cases h : n < 10
    · exact sdig_small n h w
    · exact sdig_step n (n / 10) (n % 10) (by omega) hn rfl rfl (fun w => ih (n / 10) (by omega) (by omega) w) w
end Go.Proofs.YtmmnoepcklfonaaGreatDoor
