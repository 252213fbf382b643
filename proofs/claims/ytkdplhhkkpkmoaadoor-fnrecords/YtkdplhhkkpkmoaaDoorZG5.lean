/- Texts put together: TakeI NumI. -/
import Derived.Test.YtkdplhhkkpkmoaaDoorZG4
import Derived.Test.YtkdplhhkkpkmoaaDoorZG3
/- impl.take: too short a row, and a long enough one. -/
namespace Go.Proofs.YtkdplhhkkpkmoaaDoor
open Go.RowKit
theorem itakeNo (a : Option Addr) (len cap n : Nat) (hs : len < n) (u : TypeId) (y : Value) (w : World) (hg : w.cell? ⟨8, 0, none⟩ = some (.iface u y)) :
  Calls Tryd.prog 56 #[.slice a len cap, .int .i64 n] w fun e w' => e = .returned (.tuple #[.slice none 0 0, .slice none 0 0, .iface u y]) ∧ Below w.heap.size w w' := by
 have h1 : (len : Int) < (n : Int) := by omega
 go_enter Tryd.func56, Tryd.ntmps56
 go_wp2
 go_region_held3 (fun w' => w'.cell? ⟨8, 0, none⟩ = some (.iface u y)) (go_keep) (fail)
 go_wp2
 go_ret3
 exact ⟨rfl, (Below.refl _ _).drew⟩
theorem itakeOk (b off len cap n : Nat) (hn : n ≤ len) (hc : len ≤ cap) (w : World) :
  Calls Tryd.prog 56 #[.slice (some ⟨b, off, none⟩) len cap, .int .i64 n] w fun e w' => e = .returned (.tuple #[.slice (some ⟨b, off, none⟩) n cap, .slice (if cap = n then some ⟨b, off, none⟩ else some ⟨b, off + n, none⟩) (len - n) (cap - n), .nilIface]) ∧ Below w.heap.size w w' := by
 have h1 : ¬ (len : Int) < (n : Int) := by omega
 have h2 : (n : Int) ≤ (cap : Int) := by omega
 have h3 : (n : Int) ≤ (len : Int) := by omega
 have h4 : (0 : Int) ≤ (n : Int) := by omega
 have h5 : (len : Int) ≤ (cap : Int) := by omega
 go_enter Tryd.func56, Tryd.ntmps56
 go_wp2
 go_region_held3 (fun _ => True) (trivial) (fail)
 go_wp2
 all_goals (go_ret3; exact ⟨rfl, (Below.refl _ _).drew⟩)
theorem row8_take {w : World} {a : Option Addr} {l : List UInt8} (h : Row8 w a l) (n : Nat) : Row8 w a (l.take n) := by
 rcases h with rfl | ⟨b, off, e, hlt, hc⟩
 ·exact .inl (by simp)
 ·refine .inr ⟨b, off, e, hlt, fun i hi => ?_⟩
  rw [List.length_take] at hi
  rw [hc i (by omega), List.getElem_take]
theorem row8_drop {w : World} {b off : Nat} {l : List UInt8} (h : Row8 w (some ⟨b, off, none⟩) l) (n : Nat) : Row8 w (some ⟨b, off + n, none⟩) (l.drop n) := by
 rcases h with rfl | ⟨b', off', e, hlt, hc⟩
 ·exact .inl (by simp)
 ·simp only [Option.some.injEq, Addr.mk.injEq, and_true] at e
  obtain ⟨rfl, rfl⟩ := e
  refine .inr ⟨b, off + n, rfl, hlt, fun i hi => ?_⟩
  rw [List.length_drop] at hi
  rw [Nat.add_assoc, hc (n + i) (by omega), List.getElem_drop]
/-- The first n bytes of a row and what stands behind them. -/
theorem itake (b off cap n : Nat) (l : List UInt8) (len : Nat) (el : l.length = len) (hn : n ≤ len) (hc : len ≤ cap) (w : World) (hr : Row8 w (some ⟨b, off, none⟩) l) :
  Calls Tryd.prog 56 #[.slice (some ⟨b, off, none⟩) len cap, .int .i64 n] w fun e w' => ∃ o2, e = .returned (.tuple #[.slice (some ⟨b, off, none⟩) n cap, .slice (some ⟨b, o2, none⟩) (len - n) (cap - n), .nilIface]) ∧ Row8 w' (some ⟨b, off, none⟩) (l.take n) ∧ Row8 w' (some ⟨b, o2, none⟩) (l.drop n) ∧ Below w.heap.size w w' := by
 refine (itakeOk b off len cap n hn hc w).mono ?_
 rintro e w' ⟨rfl, hb⟩
 by_cases h : cap = n
 ·refine ⟨off, by rw [if_pos h], (row8_take hr n).below hb, .inl (List.drop_eq_nil_of_le (by omega)), hb⟩
 ·refine ⟨off + n, by rw [if_neg h], (row8_take hr n).below hb, (row8_drop hr n).below hb, hb⟩
end Go.Proofs.YtkdplhhkkpkmoaaDoor

/- numberOf: the number of a row of bytes. -/
namespace Go.Proofs.YtkdplhhkkpkmoaaDoor
open Go.ChangeShapes Go.WideShapes Go.ChangeAt Go.RowKit
set_option maxHeartbeats 400000 in
set_option maxRecDepth 100000 in
/-- numberOf: the number of at most four bytes. -/
theorem inumber (a : Option Addr) (cap : Nat) (l : List UInt8) (hl : l.length ≤ 4) (w : World) (hr : Row8 w a l) :
  Calls Tryd.prog 57 #[.slice a l.length cap] w fun e w' => e = .returned (.int .i64 ((ofBE l : Nat) : Int)) ∧ w' = w := by
 have HR := hide hr
 clear hr
 go_enter Tryd.func57, Tryd.ntmps57
 go_wp2_with fail
 go_loop [3, 8] (fun r i => ∃ k y : Nat, k ≤ l.length ∧ i = .int .i64 k ∧ r = .int .i64 (y : Int) ∧ Hid (y = ofBE (l.take k))) (fun _ i => l.length - (intOf i).toNat)
 case atStart => exact ⟨0, 0, by omega, rfl, rfl, rfl⟩
 case round =>
  obtain ⟨k, y, hk, rfl, rfl, HY⟩ := hrel
  have hy : y < 256 ^ k := by have := ofBE_lt l k; rw [← unhide HY] at this; exact this
  by_cases hlt : k < l.length
  ·obtain ⟨b, off, ha, hblt, hc⟩ := (unhide HR).at (by omega)
   subst ha
   have hy2 : y < 16777216 := Nat.lt_of_lt_of_le hy (Nat.le_trans (Nat.pow_le_pow_right (by decide) (show k ≤ 3 by omega)) (by decide))
   have hc1 := hc k hlt
   have hlt' : (k : Int) < (l.length : Int) := by omega
   have hcv := l[k].toNat_lt
   have h2 : bits BinOp.or IntKind.i64 ((y : Int) * 256) (l[k].toNat : Int) = ((y * 256 + l[k].toNat : Nat) : Int) := or_byte y l[k].toNat (by omega) (by omega)
   have c0 : (l[k].toNat : Int) ≤ 255 := by omega
   have y0 : (y : Int) ≤ 16777216 := by omega
   clear hc HR hy hblt hcv hy2
   go_wp2_with fail
   go_round
   case rel => exact ⟨k + 1, y * 256 + l[k].toNat, by omega, by go_num, rfl, by show _ = _; rw [ofBE_snoc l k hlt, unhide HY]⟩
   case measure => simp [intOf]; omega
  ·have HV : Hid (((ofBE l : Nat) : Int) = (y : Int)) := by show _ = _; rw [unhide HY, List.take_of_length_le (by omega)]
   clear hy
   go_wp2_with fail
   go_ret
   exact ⟨ret_int (unhide HV).symm, rfl⟩
end Go.Proofs.YtkdplhhkkpkmoaaDoor
