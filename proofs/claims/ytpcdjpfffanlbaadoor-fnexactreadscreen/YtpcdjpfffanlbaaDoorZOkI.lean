/- ScreenOK: what the program answers. -/
import Derived.Test.YtpcdjpfffanlbaaDoorZG31
import Derived.BigQuiet
namespace Go.Proofs.YtpcdjpfffanlbaaDoor
open Go.ChangeShapes Go.WideShapes Go.ChangeAt Go.RowKit
set_option linter.unusedVariables false
theorem below_drewN {B : Nat} {a w : World} (h : Below B a w) (n : Nat) : Below B a (w.drewN n) := h.trans ⟨rfl, rfl, rfl, Nat.le_refl _, fun _ _ => rfl⟩
set_option maxHeartbeats 400000 in
set_option maxRecDepth 100000 in
theorem iplace (B : Nat) (W H x y : Int) (w : World) (c0 : w.cell? ⟨B, 0, none⟩ = some (.int .i64 W)) (c1 : w.cell? ⟨B, 1, none⟩ = some (.int .i64 H)) :
  Calls Tryd.prog 32 #[.pointer (some ⟨B, 0, none⟩), .int .i64 x, .int .i64 y] w fun e w' => e = .returned (.bool (placeB W H x y)) ∧ w' = w := by
 by_cases h1 : 0 ≤ x
 ·by_cases h2 : x ≤ W
  ·by_cases h3 : 0 ≤ y
   ·by_cases h4 : y < H
    ·have HV : Hid (placeB W H x y = true) := by show _ = _; unfold placeB; rw [in_yes ⟨h1, h2⟩, in_yes (by omega)]; rfl
     go_enter Tryd.func32, Tryd.ntmps32
     go_wp2_with fail
     go_ret
     exact ⟨ret_bool (unhide HV).symm, rfl⟩
    ·have HV : Hid (placeB W H x y = false) := by show _ = _; unfold placeB; rw [in_no (n := y) (by omega)]; simp
     go_enter Tryd.func32, Tryd.ntmps32
     go_wp2_with fail
     go_ret
     exact ⟨ret_bool (unhide HV).symm, rfl⟩
   ·have HV : Hid (placeB W H x y = false) := by show _ = _; unfold placeB; rw [in_no (n := y) (by omega)]; simp
    go_enter Tryd.func32, Tryd.ntmps32
    go_wp2_with fail
    go_ret
    exact ⟨ret_bool (unhide HV).symm, rfl⟩
  ·have HV : Hid (placeB W H x y = false) := by show _ = _; unfold placeB; rw [in_no (n := x) (by omega)]; simp
   go_enter Tryd.func32, Tryd.ntmps32
   go_wp2_with fail
   go_ret
   exact ⟨ret_bool (unhide HV).symm, rfl⟩
 ·have HV : Hid (placeB W H x y = false) := by show _ = _; unfold placeB; rw [in_no (n := x) (by omega)]; simp
  go_enter Tryd.func32, Tryd.ntmps32
  go_wp2_with fail
  go_ret
  exact ⟨ret_bool (unhide HV).symm, rfl⟩
set_option maxHeartbeats 400000 in
set_option maxRecDepth 100000 in
theorem iarea (B : Nat) (H x y : Int) (w : World) (c1 : w.cell? ⟨B, 1, none⟩ = some (.int .i64 H)) (c5 : w.cell? ⟨B, 5, none⟩ = some (.int .i64 x)) (c6 : w.cell? ⟨B, 6, none⟩ = some (.int .i64 y)) :
  Calls Tryd.prog 33 #[.pointer (some ⟨B, 0, none⟩)] w fun e w' => e = .returned (.bool (areaB H x y)) ∧ Below w.heap.size w w' := by
 by_cases h1 : 0 ≤ x
 ·by_cases h2 : x < y
  ·by_cases h3 : y < H
   ·have d1 : decide (0 ≤ x) = true := decide_eq_true h1
    have d2 : decide (x < y) = true := decide_eq_true h2
    have d3 : decide (y < H) = true := decide_eq_true h3
    have HV : Hid (areaB H x y = true) := by show _ = _; unfold areaB; rw [in_yes (by omega), in_yes (by omega)]; rfl
    go_enter Tryd.func33, Tryd.ntmps33
    go_wp2_with fail
    go_quiet (fail)
    go_wp2_with fail
    go_ret
    exact ⟨ret_bool (unhide HV).symm, below_drewN (Below.refl _ _) _⟩
   ·have d1 : decide (0 ≤ x) = true := decide_eq_true h1
    have d2 : decide (x < y) = true := decide_eq_true h2
    have d3 : decide (y < H) = false := decide_eq_false h3
    have HV : Hid (areaB H x y = false) := by show _ = _; unfold areaB; rw [in_no (n := y) (by omega)]; simp
    go_enter Tryd.func33, Tryd.ntmps33
    go_wp2_with fail
    go_quiet (fail)
    go_wp2_with fail
    go_ret
    exact ⟨ret_bool (unhide HV).symm, below_drewN (Below.refl _ _) _⟩
  ·have d1 : decide (0 ≤ x) = true := decide_eq_true h1
   have d2 : decide (x < y) = false := decide_eq_false h2
   have HV : Hid (areaB H x y = false) := by show _ = _; unfold areaB; rw [in_no (n := y) (by omega)]; simp
   go_enter Tryd.func33, Tryd.ntmps33
   go_wp2_with fail
   go_quiet (fail)
   go_wp2_with fail
   go_ret
   exact ⟨ret_bool (unhide HV).symm, below_drewN (Below.refl _ _) _⟩
 ·have d1 : decide (0 ≤ x) = false := decide_eq_false h1
  have HV : Hid (areaB H x y = false) := by show _ = _; unfold areaB; rw [in_no (n := x) (by omega)]; simp
  go_enter Tryd.func33, Tryd.ntmps33
  go_wp2_with fail
  go_quiet (fail)
  go_wp2_with fail
  go_ret
  exact ⟨ret_bool (unhide HV).symm, below_drewN (Below.refl _ _) _⟩
set_option maxHeartbeats 400000 in
set_option maxRecDepth 100000 in
theorem ihist (B : Nat) (b : Option Addr) (capb : Nat) (m : List ByteArray) (hm : m.length ≤ 1048576) (hs : ∀ k (h : k < m.length), m[k].size ≤ 1048576) (w : World) (c : w.cell? ⟨B, 11, none⟩ = some (.slice b m.length capb)) (hr : RowV w b (cS m)) :
  Calls Tryd.prog 37 #[.pointer (some ⟨B, 0, none⟩)] w fun e w' => e = .returned (.bool (histB m)) ∧ w' = w := by
 have HR := hide hr
 have HS := hide hs
 have HCL := hide (cS_len m)
 clear hr hs
 by_cases h6 : m.length ≤ 6
 ·have h6' : ¬ (6 : Int) < (m.length : Int) := by omega
  go_enter Tryd.func37, Tryd.ntmps37
  go_wp2_with fail
  go_loop [16] (fun i => ∃ k : Nat, k ≤ m.length ∧ i = .int .i64 k ∧ Hid (∀ q (h : q < m.length), q < k → decide (m[q].size ≤ 96) = true)) (fun i => m.length - (intOf i).toNat)
  case atStart => exact ⟨0, by omega, rfl, fun q _ h => absurd h (Nat.not_lt_zero _)⟩
  case round =>
   obtain ⟨k, hk, rfl, HF⟩ := hrel
   by_cases hlt : k < m.length
   ·obtain ⟨b1, off, ha, hblt, hc⟩ := (unhide HR).at (by rw [unhide HCL]; omega)
    subst ha
    have hc1 : w.cell? ⟨b1, off + k, none⟩ = some (.string m[k]) := hc k _ (cS_at m k hlt)
    have hlt' : (k : Int) < (m.length : Int) := by omega
    have hsz := unhide HS k hlt
    by_cases h1 : m[k].size ≤ 96
    ·have HF2 : Hid (∀ q (h : q < m.length), q < k + 1 → decide (m[q].size ≤ 96) = true) := fun q h hq => by
      by_cases e : q = k
      ·subst e; exact decide_eq_true h1
      ·exact unhide HF q h (by omega)
     have h1' : ¬ (96 : Int) < (m[k].size : Int) := by omega
     clear HF hc HR HS HCL
     go_wp2_with fail
     go_round
     case rel => exact ⟨k + 1, by omega, by go_num, HF2⟩
     case measure => simp [intOf]; omega
    ·have HV : Hid (histB m = false) := by show _ = _; unfold histB; rw [all_bad hlt (decide_eq_false h1)]; simp
     have h1' : (96 : Int) < (m[k].size : Int) := by omega
     clear HF hc HR HS HCL
     go_wp2_with fail
     go_ret
     exact ⟨ret_bool (unhide HV).symm, rfl⟩
   ·have HV : Hid (histB m = true) := by
     show _ = _; unfold histB; rw [all_take fun q hq => unhide HF q hq (by omega), decide_eq_true h6]; rfl
    go_wp2_with fail
    go_ret
    exact ⟨ret_bool (unhide HV).symm, rfl⟩
 ·have HV : Hid (histB m = false) := by show _ = _; unfold histB; rw [decide_eq_false h6]; rfl
  have h6' : (6 : Int) < (m.length : Int) := by omega
  go_enter Tryd.func37, Tryd.ntmps37
  go_wp2_with fail
  go_ret
  exact ⟨ret_bool (unhide HV).symm, rfl⟩
set_option maxHeartbeats 1000000 in
set_option maxRecDepth 100000 in
theorem icells (B W H : Nat) (a : Option Addr) (cap : Nat) (l : List (Int × Int)) (hl : l.length ≤ 1048576) (hW : W ≤ 24) (hH : H ≤ 10) (w : World) (hB : B < w.heap.size) (c0 : w.cell? ⟨B, 0, none⟩ = some (.int .i64 (W : Int))) (c1 : w.cell? ⟨B, 1, none⟩ = some (.int .i64 (H : Int))) (c10 : w.cell? ⟨B, 10, none⟩ = some (.slice a l.length cap)) (hr : RowV w a (cP l)) :
  Calls Tryd.prog 36 #[.pointer (some ⟨B, 0, none⟩)] w fun e w' => e = .returned (.bool (cellsB W H l)) ∧ Below w.heap.size w w' := by
 have HR := hide hr
 have HCL := hide (cP_len l)
 obtain ⟨p, hp⟩ : ∃ p, p = W * H := ⟨_, rfl⟩
 have p1 : (W : Int) * (H : Int) = (p : Int) := by rw [hp]; simp
 have p2 : p ≤ 240 := by rw [hp]; exact Nat.mul_le_mul hW hH
 have p3 : IntKind.i64.wrap (p : Int) = (p : Int) := wrapi _ (by omega) (by omega)
 clear hr hp
 by_cases hlen : l.length = p
 ·have HLEN : Hid (decide ((l.length : Int) = (W : Int) * (H : Int)) = true) := decide_eq_true (by rw [p1, hlen])
  have hne : ((l.length : Int) != (p : Int)) = false := by rw [bne_eq_false_iff_eq]; omega
  clear hlen
  go_enter Tryd.func36, Tryd.ntmps36
  go_wp2_with fail
  go_region_held3 (fun w' => w'.cell? ⟨B, 0, none⟩ = some (.int .i64 (W : Int)) ∧ w'.cell? ⟨B, 1, none⟩ = some (.int .i64 (H : Int)) ∧ w'.cell? ⟨B, 10, none⟩ = some (.slice a l.length cap)) (go_keep) (fail)
  go_wp2_with fail
  clear c0 c1 c10 hne
  go_loopw [25] (fun i wr => ∃ k : Nat, k ≤ l.length ∧ i = .int .i64 k ∧ Hid (Below w.heap.size w wr) ∧ Hid (∀ q (h : q < l.length), q < k → cellB l[q] = true)) (fun i _ => l.length - (intOf i).toNat)
  case atStart => exact ⟨0, by omega, rfl, (Below.refl _ _).drew, fun q _ h => absurd h (Nat.not_lt_zero _)⟩
  case round =>
   obtain ⟨k, hk, rfl, HB, HF⟩ := hrel
   by_cases hlt : k < l.length
   ·obtain ⟨b, off, ha, hblt, hc⟩ := (unhide HR).at (by rw [unhide HCL]; omega)
    subst ha
    obtain ⟨x0, x1⟩ := row_two hc k hlt
    obtain ⟨x, ex⟩ : ∃ x, x = l[k].1 := ⟨_, rfl⟩
    obtain ⟨y, ey⟩ : ∃ y, y = l[k].2 := ⟨_, rfl⟩
    have HXY : Hid (cellB l[k] = (runeB x && inB y 0 127)) := by show _ = _; rw [ex, ey]; rfl
    rw [← ex] at x0
    rw [← ey] at x1
    have hx0 : wr.cell? ⟨b, off + k * 2, none⟩ = some (.int .i64 x) := ((unhide HB).cell (p := ⟨b, off + k * 2, none⟩) hblt).trans x0
    have hx1 : wr.cell? ⟨b, off + k * 2 + 1, none⟩ = some (.int .i64 y) := ((unhide HB).cell (p := ⟨b, off + k * 2 + 1, none⟩) hblt).trans x1
    have hlt' : (k : Int) < (l.length : Int) := by omega
    have HB2 := hide ((unhide HB).alloc (unhide HB).size (.cells #[.int .i64 x, .int .i64 y] 53))
    clear hc HR HCL x0 x1 ex ey
    obtain ⟨C, hC⟩ : ∃ C, C = cellB (x, y) := ⟨_, rfl⟩
    have HC := hide hC
    have HXC : Hid (cellB l[k] = C) := by show _ = _; rw [unhide HXY, hC]; rfl
    clear hC HXY
    cases C with
    | false =>
     have HV : Hid (cellsB W H l = false) := by show _ = _; unfold cellsB; rw [all_bad hlt (unhide HXC)]; simp
     clear HF
     go_wp2_with (go_at_call 46; refine (icellok x y false HC _).mono ?_; rintro e w2 ⟨rfl, hb2⟩; have HB3 := hide ((unhide HB2).trans (hb2.mono (unhide HB2).size)); clear hb2)
     go_ret
     exact ⟨ret_bool (unhide HV).symm, unhide HB3⟩
    | true =>
     have HF2 : Hid (∀ q (h : q < l.length), q < k + 1 → cellB l[q] = true) := fun q h hq => by
      by_cases e : q = k
      ·subst e; exact unhide HXC
      ·exact unhide HF q h (by omega)
     clear HF
     go_wp2_with (go_at_call 46; refine (icellok x y true HC _).mono ?_; rintro e w2 ⟨rfl, hb2⟩; have HB3 := hide ((unhide HB2).trans (hb2.mono (unhide HB2).size)); clear hb2)
     go_roundw
     case rel => exact ⟨k + 1, by omega, by go_num, HB3, HF2⟩
     case measure => simp [intOf]; omega
   ·have HV : Hid (cellsB W H l = true) := by show _ = _; unfold cellsB; rw [all_take fun q hq => unhide HF q hq (by omega), unhide HLEN]; rfl
    go_wp2_with fail
    go_ret
    exact ⟨ret_bool (unhide HV).symm, unhide HB⟩
 ·have HV : Hid (cellsB W H l = false) := by show _ = _; unfold cellsB; rw [decide_eq_false (by rw [p1]; omega)]; rfl
  have hne : ((l.length : Int) != (p : Int)) = true := by rw [bne_iff_ne]; omega
  clear hlen
  go_enter Tryd.func36, Tryd.ntmps36
  go_wp2_with fail
  go_region_held3 (fun w' => w'.cell? ⟨B, 0, none⟩ = some (.int .i64 (W : Int)) ∧ w'.cell? ⟨B, 1, none⟩ = some (.int .i64 (H : Int)) ∧ w'.cell? ⟨B, 10, none⟩ = some (.slice a l.length cap)) (go_keep) (fail)
  go_wp2_with fail
  go_ret
  exact ⟨ret_bool (unhide HV).symm, (Below.refl _ _).drew⟩
end Go.Proofs.YtpcdjpfffanlbaaDoor
