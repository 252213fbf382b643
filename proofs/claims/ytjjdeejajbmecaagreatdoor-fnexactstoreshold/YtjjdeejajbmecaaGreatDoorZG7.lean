/- Texts put together: EntL WinI. -/
import Derived.Test.YtjjdeejajbmecaaGreatDoorZG0
import Derived.Test.YtjjdeejajbmecaaGreatDoorZG5
import Derived.Lib.SmallJoins
/- Rows of entries, states: the laws' own helpers. -/
namespace Go.Proofs.YtjjdeejajbmecaaGreatDoor
open Go.ChangeShapes Go.WideShapes Go.ChangeAt Go.RowKit
theorem Tryz.infL52 : (Tryz.prog.info? 52).map (fun i => (i.zero, i.size, i.bytes)) = some (some (.agg #[.int .i64 0, .string ⟨#[]⟩]), 2, 24) := by kernel_rfl
set_option maxHeartbeats 400000 in
set_option maxRecDepth 100000 in
theorem eqEnt1 (x : Int) (y : ByteArray) (w : World) : Calls Tryz.prog 88 #[.agg #[.int .i64 x, .string y], .agg #[.int .i64 x, .string y]] w fun e w' => e = .returned (.bool true) ∧ Below w.heap.size w w' := by
 have n1 : (x != x) = false := by simp
 have n2 : (y.toList != y.toList) = false := by simp
 have hb0 := Go.Joins.below_alloc2 w (Obj.cells #[.int .i64 x, .string y] 52) (Obj.cells #[.int .i64 x, .string y] 52)
 have HB := hide hb0
 clear hb0
 go_enter Tryz.func88, Tryz.ntmps88
 go_wp2_with fail
 go_ret
 exact ⟨rfl, unhide HB⟩
set_option maxHeartbeats 400000 in
set_option maxRecDepth 100000 in
theorem sameEnt (a c : Option Addr) (cap cap2 : Nat) (l : List (Int × ByteArray)) (hl : l.length ≤ 1048576) (w : World) (hr : RowV w a (cE l)) (hr2 : RowV w c (cE l)) :
  Calls Tryz.prog 72 #[.slice a l.length cap, .slice c l.length cap2] w fun e w' => e = .returned (.bool true) ∧ Below w.heap.size w w' := by
 have HR := hide hr
 have HR2 := hide hr2
 have HCL := hide (cE_len l)
 clear hr hr2
 have hne : ((l.length : Int) != (l.length : Int)) = false := by simp
 go_enter Tryz.func72, Tryz.ntmps72
 go_wp2_with fail
 go_loopw [5] (fun i wr => ∃ k : Nat, k ≤ l.length ∧ i = .int .i64 k ∧ Below w.heap.size w wr) (fun i _ => l.length - (intOf i).toNat)
 case atStart => exact ⟨0, by omega, rfl, Below.refl _ _⟩
 case round =>
  obtain ⟨k, hk, rfl, hb⟩ := hrel
  by_cases hlt : k < l.length
  ·obtain ⟨b, off, ha, hblt, hc⟩ := (unhide HR).at (by rw [unhide HCL]; omega)
   obtain ⟨b2, off2, ha2, hblt2, hc2⟩ := (unhide HR2).at (by rw [unhide HCL]; omega)
   subst ha ha2
   obtain ⟨x0, x1⟩ := row_ent hc k hlt
   obtain ⟨y0, y1⟩ := row_ent hc2 k hlt
   obtain ⟨x, ex⟩ : ∃ x, x = l[k].1 := ⟨_, rfl⟩
   obtain ⟨y, ey⟩ : ∃ y, y = l[k].2 := ⟨_, rfl⟩
   rw [← ex] at x0 y0
   rw [← ey] at x1 y1
   have hx0 : wr.cell? ⟨b, off + k * 2, none⟩ = some (.int .i64 x) := (hb.cell (p := ⟨b, off + k * 2, none⟩) hblt).trans x0
   have hx1 : wr.cell? ⟨b, off + k * 2 + 1, none⟩ = some (.string y) := (hb.cell (p := ⟨b, off + k * 2 + 1, none⟩) hblt).trans x1
   have hy0 : wr.cell? ⟨b2, off2 + k * 2, none⟩ = some (.int .i64 x) := (hb.cell (p := ⟨b2, off2 + k * 2, none⟩) hblt2).trans y0
   have hy1 : wr.cell? ⟨b2, off2 + k * 2 + 1, none⟩ = some (.string y) := (hb.cell (p := ⟨b2, off2 + k * 2 + 1, none⟩) hblt2).trans y1
   have hlt' : (k : Int) < (l.length : Int) := by omega
   have hlt0 : (0 : Int) ≤ (k : Int) := by omega
   have HB := hide hb
   clear hc hc2 HR HR2 HCL x0 x1 y0 y1 ex ey hb
   have hbw : b < wr.heap.size := Nat.lt_of_lt_of_le hblt (unhide HB).size
   have hbw2 : b2 < wr.heap.size := Nat.lt_of_lt_of_le hblt2 (unhide HB).size
   go_wp2_with fail
   go_region_held3 (fun w' => w'.cell? ⟨b, off + k * 2, none⟩ = some (.int .i64 x) ∧ w'.cell? ⟨b, off + k * 2 + 1, none⟩ = some (.string y) ∧ w'.cell? ⟨b2, off2 + k * 2, none⟩ = some (.int .i64 x) ∧ w'.cell? ⟨b2, off2 + k * 2 + 1, none⟩ = some (.string y)) (first | exact ⟨hx0, hx1, hy0, hy1⟩ | exact hs2) (first | (go_at_call 88; refine (eqEnt1 x y _).mono ?_; rintro e w2 ⟨rfl, hb2⟩; have hs2 : w2.cell? ⟨b, off + k * 2, none⟩ = some (.int .i64 x) ∧ w2.cell? ⟨b, off + k * 2 + 1, none⟩ = some (.string y) ∧ w2.cell? ⟨b2, off2 + k * 2, none⟩ = some (.int .i64 x) ∧ w2.cell? ⟨b2, off2 + k * 2 + 1, none⟩ = some (.string y) := ⟨((below_undrew hb2).cell (p := ⟨b, off + k * 2, none⟩) hbw).trans hx0, ((below_undrew hb2).cell (p := ⟨b, off + k * 2 + 1, none⟩) hbw).trans hx1, ((below_undrew hb2).cell (p := ⟨b2, off2 + k * 2, none⟩) hbw2).trans hy0, ((below_undrew hb2).cell (p := ⟨b2, off2 + k * 2 + 1, none⟩) hbw2).trans hy1⟩; have HB2 := hide ((unhide HB).trans ((below_undrew hb2).mono (unhide HB).size)); clear hb2))
   go_wp2_with fail
   go_roundw
   case rel => exact ⟨k + 1, by omega, by go_num, unhide HB2⟩
   case measure => simp [intOf]; omega
  ·go_wp2_with fail
   go_ret
   exact ⟨rfl, hb⟩
set_option maxHeartbeats 400000 in
set_option maxRecDepth 100000 in
theorem toEnt1 (x : Int) (y : ByteArray) (w : World) : Calls Tryz.prog 76 #[.agg #[.int .i64 x, .string y]] w fun e w' => e = .returned (.agg #[.int .i64 x, .string y]) ∧ Below w.heap.size w w' := by
 go_enter Tryz.func76, Tryz.ntmps76
 go_wp2_with fail
 refine bodyPost_ret (v := .agg #[.int .i64 x, .string y]) (by simp [results, Tryz.results76, go_sem]) rfl ⟨rfl, ?_⟩
 exact Go.Joins.below_alloc3 w _ _ _
set_option maxHeartbeats 400000 in
set_option maxRecDepth 100000 in
theorem copyEnt (a : Option Addr) (cap : Nat) (l : List (Int × ByteArray)) (hl : l.length ≤ 1048576) (w : World) (hr : RowV w a (cE l)) :
  Calls Tryz.prog 61 #[.slice a l.length cap] w fun e w' => e = .returned (.slice (some ⟨w.heap.size, 0, none⟩) l.length l.length) ∧
   w'.ownsRow w.heap.size 52 2 (.slice (some ⟨w.heap.size, 0, none⟩) l.length l.length) l.length (cE l) ∧ Below w.heap.size w w' := by
 obtain ⟨i0, hi, hz0, hz1, hz2⟩ := info_parts Tryz.infL52
 go_enter Tryz.func61, Tryz.ntmps61
 go_wp2_with (at_make; refine wpList_make_full _ rfl _ _ 44 rfl w.heap.size 52 i0 (.agg #[.int .i64 0, .string ⟨#[]⟩]) 2 Tryz.underlying44 hi hz0 hz1 .i64 .i64 _ _ l.length rfl rfl rfl rfl (by rw [hz2]; omega) (by unfold maxLen; omega) (Nat.le_refl _) ?_; intro w1 hown hgrow)
 rw [show (Value.agg #[.int .i64 0, .string ⟨#[]⟩]).cells = #[.int .i64 0, .string ⟨#[]⟩] from rfl, made_ent, ← fillE_zero] at hown
 have hb1 := (Below.refl w.heap.size w).grown hgrow (Nat.le_refl _) (fun k hk => by cases hk)
 clear hgrow
 have HR := hide hr
 have HCL := hide (cE_len l)
 clear hr
 go_loopw [4] (fun i wr => ∃ k : Nat, k ≤ l.length ∧ i = .int .i64 k ∧ Hid (wr.ownsRow w.heap.size 52 2 (.slice (some ⟨w.heap.size, 0, none⟩) l.length l.length) l.length (cE (fillE l k))) ∧ Hid (Below w.heap.size w wr)) (fun i _ => l.length - (intOf i).toNat)
 case atStart => exact ⟨0, by omega, rfl, hown, hb1⟩
 case round =>
  clear hown hb1
  obtain ⟨k, hk, rfl, HO, HB⟩ := hrel
  by_cases hlt : k < l.length
  ·obtain ⟨b, off, ha, hblt, hc⟩ := (unhide HR).at (by rw [unhide HCL]; omega)
   subst ha
   obtain ⟨x0, x1⟩ := row_ent hc k hlt
   obtain ⟨x, ex⟩ : ∃ x, x = l[k].1 := ⟨_, rfl⟩
   obtain ⟨y, ey⟩ : ∃ y, y = l[k].2 := ⟨_, rfl⟩
   have HS : Hid (((cE (fillE l k)).set (k * 2) (.int .i64 x)).set (k * 2 + 1) (.string y) = cE (fillE l (k + 1))) := by show _ = _; rw [ex, ey, cE_set, fillE_set l k hlt]
   have HU0 : Hid ((cE (fillE l k))[k * 2]? = some (.int .i64 0)) := by have := (cE_at (fillE l k) k (by rw [fillE_len l k hk]; exact hlt)).1; rw [fillE_at l k hlt] at this; exact this
   have HU1 : Hid ((cE (fillE l k))[k * 2 + 1]? = some (.string ⟨#[]⟩)) := by have := (cE_at (fillE l k) k (by rw [fillE_len l k hk]; exact hlt)).2; rw [fillE_at l k hlt] at this; exact this
   rw [← ex] at x0
   rw [← ey] at x1
   have hx0 : wr.cell? ⟨b, off + k * 2, none⟩ = some (.int .i64 x) := ((unhide HB).cell (p := ⟨b, off + k * 2, none⟩) hblt).trans x0
   have hx1 : wr.cell? ⟨b, off + k * 2 + 1, none⟩ = some (.string y) := ((unhide HB).cell (p := ⟨b, off + k * 2 + 1, none⟩) hblt).trans x1
   have hlt' : (k : Int) < (l.length : Int) := by omega
   have hlt0 : (0 : Int) ≤ (k : Int) := by omega
   clear hc HR HCL x0 x1 ex ey
   have hz := (unhide HB).size
   have HZ := hide hz
   clear hz
   go_wp2_with (go_at_call 76; refine (toEnt1 x y _).mono ?_; rintro e w2 ⟨rfl, hb2⟩; have H2 := ((heldZ_of (unhide HO)).below hb2 (Nat.le_refl _)).own; have c0 : w2.cell? ⟨w.heap.size, k * 2, none⟩ = some (.int .i64 0) := (H2.cellAt (k * 2) (by omega)).trans (unhide HU0); have c1 : w2.cell? ⟨w.heap.size, k * 2 + 1, none⟩ = some (.string ⟨#[]⟩) := (H2.cellAt (k * 2 + 1) (by omega)).trans (unhide HU1); have f0 := H2.frozenAt (k * 2); have f1 := H2.frozenAt (k * 2 + 1); have R := ((H2.stored (k * 2) (.int .i64 x)).1.stored (k * 2 + 1) (.string y)).1; rw [unhide HS] at R; have HR1 := hide R; have HB2 := hide ((((unhide HB).trans (hb2.mono (unhide HZ))).setCell (p := ⟨w.heap.size, k * 2, none⟩) (Nat.le_refl _) (.int .i64 x)).setCell (p := ⟨w.heap.size, k * 2 + 1, none⟩) (Nat.le_refl _) (.string y)); clear R H2 hb2)
   go_roundw
   case rel => exact ⟨k + 1, by omega, by go_num, HR1, HB2⟩
   case measure => simp [intOf]; omega
  ·have ho := unhide HO
   rw [fillE_all _ _ (by omega)] at ho
   go_wp2_with fail
   go_ret
   exact ⟨rfl, ho, unhide HB⟩
set_option maxHeartbeats 400000 in
set_option maxRecDepth 100000 in
theorem szEnt1 (t : Int) (d : ByteArray) (hd : d.size ≤ maxLen) (y : Nat) (hy : y ≤ 1048576) (w : World) : Calls Tryz.prog 74 #[.agg #[.int .i64 t, .string d], .int .i64 (y : Int)] w fun e w' => ∃ x : Int, e = .returned (.int .i64 x) ∧ Below w.heap.size w w' ∧ (x = -1 ∨ ∃ z : Nat, x = (z : Int) ∧ z ≤ y ∧ d.size ≤ 1048576) := by
 have HB := hide (Go.Joins.below_alloc1 w (.cells #[.int .i64 t, .string d] 117))
 unfold maxLen at hd
 obtain ⟨a, ha⟩ : ∃ a : Nat, a = d.size := ⟨_, rfl⟩
 have HA := hide ha
 rw [← ha] at hd
 have la : (d.size : Int) = (a : Int) := by rw [ha]
 clear ha
 by_cases c1 : a ≤ y
 ·go_enter Tryz.func74, Tryz.ntmps74
  go_wp2_with fail
  go_ret
  exact ⟨_, rfl, unhide HB, .inr ⟨y - a, by omega, by omega, by rw [← unhide HA]; omega⟩⟩
 ·go_enter Tryz.func74, Tryz.ntmps74
  go_wp2_with fail
  go_ret
  exact ⟨_, rfl, unhide HB, .inl rfl⟩
set_option maxHeartbeats 1000000 in
set_option maxRecDepth 100000 in
theorem szEnt (a : Option Addr) (cap n : Nat) (l : List (Int × ByteArray)) (HN : Hid (l.length = n)) (Y : Nat) (hY : Y ≤ 1048576) (hl : n ≤ maxLen) (hsz : ∀ k (h : k < l.length), l[k].2.size ≤ maxLen) (w : World) (hr : RowV w a (cE l)) :
  Calls Tryz.prog 51 #[.slice a n cap, .int .i64 (Y : Int)] w fun e w' => ∃ x : Int, e = .returned (.int .i64 x) ∧ Below w.heap.size w w' ∧ (x = -1 ∨ ∃ z : Nat, x = (z : Int) ∧ z + n ≤ Y ∧ n ≤ 1048576 ∧ ∀ k (h : k < l.length), l[k].2.size ≤ 1048576) := by
 have HR := hide hr
 have HZ := hide hsz
 have HCL := hide (cE_len l)
 have hl2 : (n : Int) ≤ 9223372036854775807 := by unfold maxLen at hl; omega
 clear hr hsz hl
 by_cases big : Y < n
 ·have b1 : (Y : Int) - (n : Int) < 0 := by omega
  go_enter Tryz.func51, Tryz.ntmps51
  go_wp2_with fail
  go_ret
  exact ⟨_, rfl, Below.refl _ _, .inl rfl⟩
 ·have hb : n ≤ Y := by omega
  go_enter Tryz.func51, Tryz.ntmps51
  go_wp2_with fail
  go_loopw [1, 5] (fun s i wr => ∃ (k y : Nat), k ≤ n ∧ i = .int .i64 k ∧ s = .int .i64 (y : Int) ∧ y + n ≤ Y ∧ Hid (∀ q (h : q < l.length), q < k → l[q].2.size ≤ 1048576) ∧ Hid (Below w.heap.size w wr)) (fun _ i _ => n - (intOf i).toNat)
  case atStart => exact ⟨0, Y - n, by omega, rfl, by go_num, by omega, fun q _ h => absurd h (Nat.not_lt_zero _), Below.refl _ _⟩
  case round =>
   obtain ⟨k, y, hk, rfl, rfl, hy, HF, HB⟩ := hrel
   by_cases hlt : k < n
   ·obtain ⟨b, off, ha, hblt, hc⟩ := (unhide HR).at (by rw [unhide HCL, unhide HN]; omega)
    subst ha
    have hlk : k < l.length := by rw [unhide HN]; exact hlt
    obtain ⟨x0, x1⟩ := row_ent hc k hlk
    obtain ⟨t, et⟩ : ∃ t, t = l[k].1 := ⟨_, rfl⟩
    obtain ⟨d, ed⟩ : ∃ d, d = l[k].2 := ⟨_, rfl⟩
    rw [← et] at x0
    rw [← ed] at x1
    have hx0 : wr.cell? ⟨b, off + k * 2, none⟩ = some (.int .i64 t) := ((unhide HB).cell (p := ⟨b, off + k * 2, none⟩) hblt).trans x0
    have hx1 : wr.cell? ⟨b, off + k * 2 + 1, none⟩ = some (.string d) := ((unhide HB).cell (p := ⟨b, off + k * 2 + 1, none⟩) hblt).trans x1
    have hlt' : (k : Int) < (n : Int) := by omega
    have hlt0 : (0 : Int) ≤ (k : Int) := by omega
    have HD : Hid (d.size ≤ maxLen) := by show _ ≤ _; rw [ed]; exact unhide HZ k hlk
    have HED := hide ed
    clear hc x0 x1 et ed
    go_wp2_with fail
    refine (szEnt1 t d (unhide HD) y (by omega) _).mono ?_
    rintro e w2 ⟨x, rfl, hb2, hx⟩
    have HB2 := hide ((unhide HB).trans (hb2.mono (unhide HB).size))
    clear hb2 HB hx0 hx1
    rcases hx with rfl | ⟨z, rfl, hz, hd⟩
    ·go_wp2_with fail
     go_ret
     exact ⟨_, rfl, unhide HB2, .inl rfl⟩
    ·have hz0 : ¬ (z : Int) < 0 := by omega
     have HF2 : Hid (∀ q (h : q < l.length), q < k + 1 → l[q].2.size ≤ 1048576) := fun q h hq => by
      by_cases e : q = k
      ·subst e; rw [← unhide HED]; exact hd
      ·exact unhide HF q h (by omega)
     clear hd HF HR HCL HZ
     go_wp2_with fail
     go_roundw
     case rel => exact ⟨k + 1, z, by omega, by go_num, rfl, by omega, HF2, HB2⟩
     case measure => simp [intOf]; omega
   ·have HF2 : Hid (∀ q (h : q < l.length), l[q].2.size ≤ 1048576) := fun q h => unhide HF q h (by have := unhide HN; omega)
    go_wp2_with fail
    go_ret
    exact ⟨(y : Int), rfl, unhide HB, .inr ⟨y, rfl, hy, by omega, unhide HF2⟩⟩
end Go.Proofs.YtjjdeejajbmecaaGreatDoor

/- within: what the program answers. -/
namespace Go.Proofs.YtjjdeejajbmecaaGreatDoor
open Go.ChangeShapes Go.WideShapes Go.ChangeAt Go.RowKit
set_option linter.unusedVariables false
set_option maxHeartbeats 400000 in
theorem iwi (x a b : Int) (R : Bool) (HR : Hid (R = inB x a b)) (w : World) : Calls Tryz.prog 43 #[.int .i64 x, .int .i64 a, .int .i64 b] w fun e w' => e = .returned (.bool R) ∧ w' = w := by
 by_cases h1 : a ≤ x
 ·by_cases h2 : x ≤ b
  all_goals
   go_enter Tryz.func43, Tryz.ntmps43
   go_wp2_with fail
   go_ret
   exact ⟨ret_bool (by rw [unhide HR]; unfold inB; rw [Bool.eq_iff_iff]; simp <;> omega), rfl⟩
 ·go_enter Tryz.func43, Tryz.ntmps43
  go_wp2_with fail
  go_ret
  exact ⟨ret_bool (by rw [unhide HR]; unfold inB; rw [Bool.eq_iff_iff]; simp <;> omega), rfl⟩
end Go.Proofs.YtjjdeejajbmecaaGreatDoor
