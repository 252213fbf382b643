/- The laws' own helper at. -/
import Derived.Test.YtlngajonfbnhiaaZG0
import Derived.Test.YtlngajonfbnhiaaZG1
namespace Go.Proofs.Ytlngajonfbnhiaa
open Go.ChangeShapes Go.WideShapes Go.ChangeAt Go.RowKit
set_option linter.unusedVariables false
theorem below_drewM {B : Nat} {a b : World} (h : Below B a b) (n : Nat) : Below B a (b.drewN n) := ⟨h.os, h.tape, h.output, h.size, h.block⟩
/-- What a drawn number is. -/
def atV (l : List UInt8) (i n : Nat) : Nat := if l.length = 0 then i * 7 % n else ((l.getD (i % l.length) 0).toNat * 31 + (l.getD ((i + 1) % l.length) 0).toNat + i / l.length) % n
set_option maxHeartbeats 1000000 in
set_option maxRecDepth 100000 in
theorem latV (a : Option Addr) (cap : Nat) (l : List UInt8) (i n v0 : Nat) (HE0 : Hid (v0 = atV l i n)) (hl : l.length ≤ 1048576) (hi : i ≤ 1000) (hn : 2 ≤ n) (hn2 : n ≤ 100000) (w : World) (hr : RowV w a (B8 l)) :
  Calls Try.prog 4 #[.slice a l.length cap, .int .i64 (i : Int), .int .i64 (n : Int)] w fun e w' => e = .returned (.int .i64 (v0 : Int)) ∧ Below w.heap.size w w' := by
 have n1 : ¬ (n : Int) ≤ 1 := by omega
 have n3 : ¬ (n : Int) = 0 := by omega
 have n4 : ((n : Int) == 0) = false := beq_eq_false_iff_ne.2 (by omega)
 by_cases h0 : l.length = 0
 ·have e0 : ((l.length : Int) == 0) = true := by rw [h0]; rfl
  have e1 : (l.length : Int) = 0 := by omega
  obtain ⟨v, hv⟩ : ∃ v, v = i * 7 % n := ⟨_, rfl⟩
  have HE : Hid (v = v0) := by show _ = _; rw [unhide HE0, hv]; unfold atV; rw [if_pos h0]
  have HV : Hid (v < n) := by show _ < _; rw [hv]; exact Nat.mod_lt _ (by omega)
  have k2 : ((i : Int) * 7) % (n : Int) = (v : Int) := by rw [hv]; push_cast; rfl
  have k1 : ((i : Int) * 7).tmod (n : Int) = (v : Int) := by rw [Int.tmod_eq_emod_of_nonneg (by omega)]; exact k2
  clear hv hr
  go_enter Try.func4, Try.ntmps4
  go_wp2_with fail
  go_ret
  have e0 := unhide HE
  subst e0
  exact ⟨rfl, Below.refl _ _⟩
 ·obtain ⟨L, hL⟩ : ∃ L, L = l.length := ⟨_, rfl⟩
  rw [← hL] at h0 hl ⊢
  have e0 : ((L : Int) == 0) = false := beq_eq_false_iff_ne.2 (by omega)
  have e1 : ¬ (L : Int) = 0 := by omega
  obtain ⟨q1, hq1⟩ : ∃ q, q = i % L := ⟨_, rfl⟩
  obtain ⟨q2, hq2⟩ : ∃ q, q = (i + 1) % L := ⟨_, rfl⟩
  obtain ⟨q3, hq3⟩ : ∃ q, q = i / L := ⟨_, rfl⟩
  have q1l : q1 < L := by rw [hq1]; exact Nat.mod_lt _ (by omega)
  have q2l : q2 < L := by rw [hq2]; exact Nat.mod_lt _ (by omega)
  have q3l : q3 ≤ 1000 := by rw [hq3]; exact Nat.le_trans (Nat.div_le_self _ _) hi
  have a2 : (i : Int) % (L : Int) = (q1 : Int) := by rw [hq1]; push_cast; rfl
  have a1 : (i : Int).tmod (L : Int) = (q1 : Int) := by rw [Int.tmod_eq_emod_of_nonneg (by omega)]; exact a2
  have b2 : ((i : Int) + 1) % (L : Int) = (q2 : Int) := by rw [hq2]; push_cast; rfl
  have b1 : ((i : Int) + 1).tmod (L : Int) = (q2 : Int) := by rw [Int.tmod_eq_emod_of_nonneg (by omega)]; exact b2
  have c2 : (i : Int) / (L : Int) = (q3 : Int) := by rw [hq3]; push_cast; rfl
  have c1 : (i : Int).tdiv (L : Int) = (q3 : Int) := by rw [Int.tdiv_eq_ediv_of_nonneg (by omega)]; exact c2
  obtain ⟨b, off, ha, hblt, hc⟩ := hr.at (by rw [B8_len]; omega)
  subst ha
  obtain ⟨x, hx⟩ : ∃ x, x = l[q1].toNat := ⟨_, rfl⟩
  obtain ⟨y, hy⟩ : ∃ y, y = l[q2].toNat := ⟨_, rfl⟩
  have x255 : x ≤ 255 := by rw [hx]; have := l[q1].toNat_lt; omega
  have y255 : y ≤ 255 := by rw [hy]; have := l[q2].toNat_lt; omega
  have r1 : w.cell? ⟨b, off + q1, none⟩ = some (.int .u8 (x : Int)) := by rw [hx]; exact hc q1 _ (by unfold B8; rw [List.getElem?_map, List.getElem?_eq_getElem (by omega)]; rfl)
  have r2 : w.cell? ⟨b, off + q2, none⟩ = some (.int .u8 (y : Int)) := by rw [hy]; exact hc q2 _ (by unfold B8; rw [List.getElem?_map, List.getElem?_eq_getElem (by omega)]; rfl)
  obtain ⟨v, hv⟩ : ∃ v, v = (x * 31 + y + q3) % n := ⟨_, rfl⟩
  have HE : Hid (v = v0) := by
   show _ = _
   rw [unhide HE0]
   unfold atV
   rw [if_neg (by rw [← hL]; exact h0), show i % l.length = q1 from by rw [hq1, hL], show (i + 1) % l.length = q2 from by rw [hq2, hL], show i / l.length = q3 from by rw [hq3, hL], List.getD_eq_getElem?_getD, List.getD_eq_getElem?_getD, List.getElem?_eq_getElem (by omega : q1 < l.length), List.getElem?_eq_getElem (by omega : q2 < l.length), hv, hx, hy]
   rfl
  have HV : Hid (v < n) := by show _ < _; rw [hv]; exact Nat.mod_lt _ (by omega)
  have k2 : ((x : Int) * 31 + (y : Int) + (q3 : Int)) % (n : Int) = (v : Int) := by rw [hv]; push_cast; rfl
  have k1 : ((x : Int) * 31 + (y : Int) + (q3 : Int)).tmod (n : Int) = (v : Int) := by rw [Int.tmod_eq_emod_of_nonneg (by omega)]; exact k2
  have w1 : IntKind.i64.wrap ((x : Int) * 31) = (x : Int) * 31 := wrapi _ (by omega) (by omega)
  have w2 : IntKind.i64.wrap ((x : Int) * 31 + (y : Int)) = (x : Int) * 31 + (y : Int) := wrapi _ (by omega) (by omega)
  have w3 : IntKind.i64.wrap ((x : Int) * 31 + (y : Int) + (q3 : Int)) = (x : Int) * 31 + (y : Int) + (q3 : Int) := wrapi _ (by omega) (by omega)
  have w4 : IntKind.i64.wrap ((i : Int) + 1) = (i : Int) + 1 := wrapi _ (by omega) (by omega)
  have w5 : IntKind.i64.wrap (q1 : Int) = (q1 : Int) := wrapi _ (by omega) (by omega)
  have w6 : IntKind.i64.wrap (q2 : Int) = (q2 : Int) := wrapi _ (by omega) (by omega)
  have w7 : IntKind.i64.wrap (q3 : Int) = (q3 : Int) := wrapi _ (by omega) (by omega)
  have w8 : IntKind.i64.wrap (v : Int) = (v : Int) := wrapi _ (by have := unhide HV; omega) (by have := unhide HV; omega)
  have w9 : IntKind.i64.wrap (x : Int) = (x : Int) := wrapi _ (by omega) (by omega)
  have w10 : IntKind.i64.wrap (y : Int) = (y : Int) := wrapi _ (by omega) (by omega)
  have l1 : (q1 : Int) < (L : Int) := by omega
  have l2 : (q2 : Int) < (L : Int) := by omega
  have l3 : (0 : Int) ≤ (q1 : Int) := by omega
  have l4 : (0 : Int) ≤ (q2 : Int) := by omega
  clear hc hx hy hv hq1 hq2 hq3 hr hL
  go_enter Try.func4, Try.ntmps4
  go_wp2_with fail
  go_quiet (fail)
  go_wp2_with fail
  go_ret
  have e0 := unhide HE
  subst e0
  exact ⟨rfl, below_drewM (Below.refl _ _) _⟩
theorem atV_lt (l : List UInt8) (i n : Nat) (h : 0 < n) : atV l i n < n := by unfold atV; split <;> exact Nat.mod_lt _ h
theorem lat (a : Option Addr) (cap : Nat) (l : List UInt8) (i n : Nat) (hl : l.length ≤ 1048576) (hi : i ≤ 1000) (hn : 2 ≤ n) (hn2 : n ≤ 100000) (w : World) (hr : RowV w a (B8 l)) :
  Calls Try.prog 4 #[.slice a l.length cap, .int .i64 (i : Int), .int .i64 (n : Int)] w fun e w' => ∃ v : Nat, e = .returned (.int .i64 (v : Int)) ∧ v < n ∧ Below w.heap.size w w' :=
 (latV a cap l i n _ rfl hl hi hn hn2 w hr).mono (fun _ _ h => ⟨_, h.1, atV_lt l i n (by omega), h.2⟩)
set_option maxRecDepth 100000 in
theorem lat_one (a : Option Addr) (cap : Nat) (l : List UInt8) (i : Int) (w : World) :
  Calls Try.prog 4 #[.slice a l.length cap, .int .i64 i, .int .i64 1] w fun e w' => e = .returned (.int .i64 0) ∧ w' = w := by
 go_enter Try.func4, Try.ntmps4
 go_wp2_with fail
 go_ret
 exact ⟨rfl, rfl⟩
theorem latN (a : Option Addr) (cap : Nat) (l : List UInt8) (i n : Nat) (hl : l.length ≤ 1048576) (hi : i ≤ 1000) (hn : 1 ≤ n) (hn2 : n ≤ 100000) (w : World) (hr : RowV w a (B8 l)) :
  Calls Try.prog 4 #[.slice a l.length cap, .int .i64 (i : Int), .int .i64 (n : Int)] w fun e w' => ∃ v : Nat, e = .returned (.int .i64 (v : Int)) ∧ v < n ∧ Below w.heap.size w w' := by
 by_cases h : n = 1
 ·subst h
  refine (lat_one a cap l (i : Int) w).mono ?_
  rintro e w' ⟨rfl, rfl⟩
  exact ⟨0, rfl, by omega, Below.refl _ _⟩
 ·exact lat a cap l i n hl hi (by omega) hn2 w hr
end Go.Proofs.Ytlngajonfbnhiaa
