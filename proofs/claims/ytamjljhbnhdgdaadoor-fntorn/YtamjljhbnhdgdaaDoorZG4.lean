/- Texts put together: AsH AsF TakeI NumI FldI. -/
import Derived.Test.YtamjljhbnhdgdaaDoorZG3
import Derived.Test.YtamjljhbnhdgdaaDoorZG1
/- errors.As hits at once at a struct target. -/
namespace Go.Proofs.YtamjljhbnhdgdaaDoor
open Go.RowKit Go.Extern.Stop Go.Stop Go.Extern
theorem as_mKind (h : Value) (w : World) : (Go.method 276 96 (.agg #[h]) "Kind").run Tryd.prog w = .ok (84, h) w := by kernel_rfl
theorem as_mElem (h : Value) (w : World) : (Go.method 276 96 (.agg #[h]) "Elem").run Tryd.prog w = .ok (91, .agg #[h]) w := by kernel_rfl
theorem as_mImplements (h : Value) (w : World) : (Go.method 276 96 (.agg #[h]) "Implements").run Tryd.prog w = .ok (92, .agg #[h]) w := by kernel_rfl
theorem as_mAssignableTo (h : Value) (w : World) : (Go.method 276 96 (.agg #[h]) "AssignableTo").run Tryd.prog w = .ok (89, .agg #[h]) w := by kernel_rfl
end Go.Proofs.YtamjljhbnhdgdaaDoor

/- impl.faultCode of a fault. -/
namespace Go.Proofs.YtamjljhbnhdgdaaDoor
open Go.RowKit Go.Extern.Stop Go.Stop Go.Extern
end Go.Proofs.YtamjljhbnhdgdaaDoor

/- impl.take: too short a row, and a long enough one. -/
namespace Go.Proofs.YtamjljhbnhdgdaaDoor
open Go.RowKit
theorem itakeNo (a : Option Addr) (len cap n : Nat) (hs : len < n) (u : TypeId) (y : Value) (w : World) (hg : w.cell? ⟨5, 0, none⟩ = some (.iface u y)) :
  Calls Tryd.prog 61 #[.slice a len cap, .int .i64 n] w fun e w' => e = .returned (.tuple #[.slice none 0 0, .slice none 0 0, .iface u y]) ∧ Below w.heap.size w w' := by
 have h1 : (len : Int) < (n : Int) := by omega
 go_enter Tryd.func61, Tryd.ntmps61
 go_wp2
 go_region_held3 (fun w' => w'.cell? ⟨5, 0, none⟩ = some (.iface u y)) (go_keep) (fail)
 go_wp2
 go_ret3
 exact ⟨rfl, (Below.refl _ _).drew⟩
theorem itakeOk (b off len cap n : Nat) (hn : n ≤ len) (hc : len ≤ cap) (w : World) :
  Calls Tryd.prog 61 #[.slice (some ⟨b, off, none⟩) len cap, .int .i64 n] w fun e w' => e = .returned (.tuple #[.slice (some ⟨b, off, none⟩) n cap, .slice (if cap = n then some ⟨b, off, none⟩ else some ⟨b, off + n, none⟩) (len - n) (cap - n), .nilIface]) ∧ Below w.heap.size w w' := by
 have h1 : ¬ (len : Int) < (n : Int) := by omega
 have h2 : (n : Int) ≤ (cap : Int) := by omega
 have h3 : (n : Int) ≤ (len : Int) := by omega
 have h4 : (0 : Int) ≤ (n : Int) := by omega
 have h5 : (len : Int) ≤ (cap : Int) := by omega
 go_enter Tryd.func61, Tryd.ntmps61
 go_wp2
 go_region_held3 (fun _ => True) (trivial) (fail)
 go_wp2
 all_goals (go_ret3; exact ⟨rfl, (Below.refl _ _).drew⟩)
theorem row8_take {w : World} {a : Option Addr} {l : List UInt8} (h : Row8 w a l) (n : Nat) : Row8 w a (l.take n) := by
 rcases h with rfl | ⟨b, off, e, hlt, hc⟩
 ·exact .inl (by simp)
 ·refine .inr ⟨b, off, e, hlt, fun i hi => ?_⟩
  rw [List.length_take] at hi
  rw [hc i (by omega), List.getElem_take]
theorem row8_drop {w : World} {b off : Nat} {l : List UInt8} (h : Row8 w (some ⟨b, off, none⟩) l) (n : Nat) : Row8 w (some ⟨b, off + n, none⟩) (l.drop n) := by
 rcases h with rfl | ⟨b', off', e, hlt, hc⟩
 ·exact .inl (by simp)
 ·simp only [Option.some.injEq, Addr.mk.injEq, and_true] at e
  obtain ⟨rfl, rfl⟩ := e
  refine .inr ⟨b, off + n, rfl, hlt, fun i hi => ?_⟩
  rw [List.length_drop] at hi
  rw [Nat.add_assoc, hc (n + i) (by omega), List.getElem_drop]
/-- The first n bytes of a row and what stands behind them. -/
theorem itake (b off cap n : Nat) (l : List UInt8) (len : Nat) (el : l.length = len) (hn : n ≤ len) (hc : len ≤ cap) (w : World) (hr : Row8 w (some ⟨b, off, none⟩) l) :
  Calls Tryd.prog 61 #[.slice (some ⟨b, off, none⟩) len cap, .int .i64 n] w fun e w' => ∃ o2, e = .returned (.tuple #[.slice (some ⟨b, off, none⟩) n cap, .slice (some ⟨b, o2, none⟩) (len - n) (cap - n), .nilIface]) ∧ Row8 w' (some ⟨b, off, none⟩) (l.take n) ∧ Row8 w' (some ⟨b, o2, none⟩) (l.drop n) ∧ Below w.heap.size w w' := by
 refine (itakeOk b off len cap n hn hc w).mono ?_
 rintro e w' ⟨rfl, hb⟩
 by_cases h : cap = n
 ·refine ⟨off, by rw [if_pos h], (row8_take hr n).below hb, .inl (List.drop_eq_nil_of_le (by omega)), hb⟩
 ·refine ⟨off + n, by rw [if_neg h], (row8_take hr n).below hb, (row8_drop hr n).below hb, hb⟩
end Go.Proofs.YtamjljhbnhdgdaaDoor

/- numberOf: the number of a row of bytes. -/
namespace Go.Proofs.YtamjljhbnhdgdaaDoor
open Go.ChangeShapes Go.WideShapes Go.ChangeAt Go.RowKit
set_option maxHeartbeats 400000 in
set_option maxRecDepth 100000 in
/-- numberOf: the number of at most four bytes. -/
theorem inumber (a : Option Addr) (cap : Nat) (l : List UInt8) (hl : l.length ≤ 4) (w : World) (hr : Row8 w a l) :
  Calls Tryd.prog 62 #[.slice a l.length cap] w fun e w' => e = .returned (.int .i64 ((ofBE l : Nat) : Int)) ∧ w' = w := by
 have HR := hide hr
 clear hr
 go_enter Tryd.func62, Tryd.ntmps62
 go_wp2_with fail
 go_loop [3, 8] (fun r i => ∃ k y : Nat, k ≤ l.length ∧ i = .int .i64 k ∧ r = .int .i64 (y : Int) ∧ Hid (y = ofBE (l.take k))) (fun _ i => l.length - (intOf i).toNat)
 case atStart => exact ⟨0, 0, by omega, rfl, rfl, rfl⟩
 case round =>
  obtain ⟨k, y, hk, rfl, rfl, HY⟩ := hrel
  have hy : y < 256 ^ k := by have := ofBE_lt l k; rw [← unhide HY] at this; exact this
  by_cases hlt : k < l.length
  ·obtain ⟨b, off, ha, hblt, hc⟩ := (unhide HR).at (by omega)
   subst ha
   have hy2 : y < 16777216 := Nat.lt_of_lt_of_le hy (Nat.le_trans (Nat.pow_le_pow_right (by decide) (show k ≤ 3 by omega)) (by decide))
   have hc1 := hc k hlt
   have hlt' : (k : Int) < (l.length : Int) := by omega
   have hcv := l[k].toNat_lt
   have h2 : bits BinOp.or IntKind.i64 ((y : Int) * 256) (l[k].toNat : Int) = ((y * 256 + l[k].toNat : Nat) : Int) := or_byte y l[k].toNat (by omega) (by omega)
   have c0 : (l[k].toNat : Int) ≤ 255 := by omega
   have y0 : (y : Int) ≤ 16777216 := by omega
   clear hc HR hy hblt hcv hy2
   go_wp2_with fail
   go_round
   case rel => exact ⟨k + 1, y * 256 + l[k].toNat, by omega, by go_num, rfl, by show _ = _; rw [ofBE_snoc l k hlt, unhide HY]⟩
   case measure => simp [intOf]; omega
  ·have HV : Hid (((ofBE l : Nat) : Int) = (y : Int)) := by show _ = _; rw [unhide HY, List.take_of_length_le (by omega)]
   clear hy
   go_wp2_with fail
   go_ret
   exact ⟨ret_int (unhide HV).symm, rfl⟩
end Go.Proofs.YtamjljhbnhdgdaaDoor

/- impl.takeField: one field of a row of bytes, and what stands behind it. -/
namespace Go.Proofs.YtamjljhbnhdgdaaDoor
open Go.ChangeShapes Go.WideShapes Go.ChangeAt Go.RowKit
/-- One field and what stands behind it; none where the bytes are cut off or the length is out of its bounds. -/
def fld (l : List UInt8) : Option (List UInt8 × List UInt8) :=
 if l.length < 2 then none else if 20000 < ofBE (l.take 2) then none else if l.length - 2 < ofBE (l.take 2) then none
 else some ((l.drop 2).take (ofBE (l.take 2)), (l.drop 2).drop (ofBE (l.take 2)))
theorem fld_some {l x r : List UInt8} (h : fld l = some (x, r)) : 2 ≤ l.length ∧ ofBE (l.take 2) ≤ 20000 ∧ ofBE (l.take 2) ≤ l.length - 2 ∧ x = (l.drop 2).take (ofBE (l.take 2)) ∧ r = (l.drop 2).drop (ofBE (l.take 2)) := by
 unfold fld at h
 split at h
 ·simp at h
 ·split at h
  ·simp at h
  ·split at h
   ·simp at h
   ·simp only [Option.some.injEq, Prod.mk.injEq] at h
    exact ⟨by omega, by omega, by omega, h.1.symm, h.2.symm⟩
set_option maxHeartbeats 400000 in
theorem itakefieldOk (b off cap len : Nat) (l x r : List UInt8) (el : l.length = len) (hc : len ≤ cap) (hf : fld l = some (x, r)) (w : World) (hr : Row8 w (some ⟨b, off, none⟩) l) :
  Calls Tryd.prog 69 #[.slice (some ⟨b, off, none⟩) len cap] w fun e w' => ∃ o1 o2, e = .returned (.tuple #[.slice (some ⟨b, o1, none⟩) x.length (cap - 2), .slice (some ⟨b, o2, none⟩) r.length (cap - 2 - x.length), .nilIface]) ∧ Row8 w' (some ⟨b, o1, none⟩) x ∧ Row8 w' (some ⟨b, o2, none⟩) r ∧ Below w.heap.size w w' := by
 obtain ⟨h2, hy, hle, ex, er⟩ := fld_some hf
 rw [el] at h2 hle
 have HTL : Hid ((l.take 2).length = 2) := by show _ = _; rw [List.length_take]; omega
 have HDL : Hid ((l.drop 2).length = len - 2) := by show _ = _; rw [List.length_drop, el]
 have T1 := itake b off cap 2 l len el h2 hc w hr
 change Calls _ _ #[_, .int .i64 2] _ _ at T1
 obtain ⟨y, ey⟩ : ∃ y : Nat, y = ofBE (l.take 2) := ⟨_, rfl⟩
 rw [← ey] at hy hle ex er
 have xl : x.length = y := by rw [ex, List.length_take, unhide HDL]; omega
 have rl : r.length = len - 2 - y := by rw [er, List.length_drop, unhide HDL]
 rw [xl, rl]
 have HEY := hide ey
 have HEX := hide ex
 have HER := hide er
 obtain ⟨m, em⟩ : ∃ m, m = len - 2 := ⟨_, rfl⟩
 obtain ⟨cp, ecp⟩ : ∃ cp, cp = cap - 2 := ⟨_, rfl⟩
 rw [← em, ← ecp] at T1 ⊢
 rw [← em] at HDL hle
 have hc2 : m ≤ cp := by omega
 have n1 : ¬ (20000 : Int) < (y : Int) := by omega
 clear hf ey ex er xl rl hr em ecp hc
 go_enter Tryd.func69, Tryd.ntmps69
 go_wp2_with (first | (have hq := HR2; go_at_call 61; refine (itake b o2 cp y (l.drop 2) m (unhide HDL) hle hc2 _ (unhide HR2)).mono ?_; rintro e w3 ⟨o3, rfl, hx, hrr, hb3⟩; have HX := hide hx; have HRR := hide hrr; have HB3 := hide ((unhide HB).trans (hb3.mono (unhide HB).size)); clear hx hrr hb3 HR2) | (have hq := HT; go_at_call 62; have h3 := inumber (some ⟨b, off, none⟩) cap (l.take 2) (by rw [unhide HTL]; decide) _ (unhide HT); rw [unhide HTL, ← unhide HEY] at h3; refine h3.mono ?_; clear h3; rintro e w2 ⟨rfl, hw⟩; subst w2) | (go_at_call 61; refine T1.mono ?_; clear T1; rintro e w1 ⟨o2, rfl, ht, hd, hb⟩; have HT := hide ht; have HR2 := hide hd; have HB := hide hb; clear ht hd hb))
 go_ret3
 refine ⟨o2, o3, rfl, ?_, ?_, unhide HB3⟩
 ·rw [unhide HEX]; exact unhide HX
 ·rw [unhide HER]; exact unhide HRR
/-- What the listed variables hold that reading asks for. -/
structure ErrsIn (w : World) : Prop where
 type : w.cell? ⟨6, 0, none⟩ = some (.iface 96 (.agg #[.pointer (some ⟨10, 51, none⟩)]))
 cut : ∃ u y, w.cell? ⟨5, 0, none⟩ = some (.iface u y)
 bounds : ∃ u y, w.cell? ⟨7, 0, none⟩ = some (.iface u y)
 behind : ∃ u y, w.cell? ⟨9, 0, none⟩ = some (.iface u y)
theorem ErrsIn.below {w w' : World} (h : ErrsIn w) (hb : Below w.heap.size w w') : ErrsIn w' := by
 obtain ⟨t, ⟨u1, y1, c1⟩, ⟨u2, y2, c2⟩, ⟨u3, y3, c3⟩⟩ := h
 exact ⟨cell_later hb t, ⟨u1, y1, cell_later hb c1⟩, ⟨u2, y2, cell_later hb c2⟩, ⟨u3, y3, cell_later hb c3⟩⟩
set_option maxHeartbeats 400000 in
theorem itakefieldNo (b off cap len : Nat) (l : List UInt8) (el : l.length = len) (hc : len ≤ cap) (hf : fld l = none) (w : World) (hE : ErrsIn w) (hr : Row8 w (some ⟨b, off, none⟩) l) :
  Calls Tryd.prog 69 #[.slice (some ⟨b, off, none⟩) len cap] w fun e w' => (∃ u y, e = .returned (.tuple #[.slice none 0 0, .slice none 0 0, .iface 107 (.agg #[.int .i64 3, .iface u y])])) ∧ Below w.heap.size w w' := by
 obtain ⟨u1, y1, c1⟩ := hE.cut
 by_cases h2 : len < 2
 ·have T1 := itakeNo (some ⟨b, off, none⟩) len cap 2 h2 u1 y1 w c1
  change Calls _ _ #[_, .int .i64 2] _ _ at T1
  clear hf hr hE
  go_enter Tryd.func69, Tryd.ntmps69
  go_wp2_with (go_at_call 61; refine T1.mono ?_; clear T1; rintro e w1 ⟨rfl, hb⟩)
  go_ret3
  exact ⟨⟨_, _, rfl⟩, hb⟩
 have HTL : Hid ((l.take 2).length = 2) := by show _ = _; rw [List.length_take]; omega
 have HDL : Hid ((l.drop 2).length = len - 2) := by show _ = _; rw [List.length_drop, el]
 have T1 := itake b off cap 2 l len el (by omega) hc w hr
 change Calls _ _ #[_, .int .i64 2] _ _ at T1
 obtain ⟨y, ey⟩ : ∃ y : Nat, y = ofBE (l.take 2) := ⟨_, rfl⟩
 have HEY := hide ey
 have HE := hide hE
 obtain ⟨m, em⟩ : ∃ m, m = len - 2 := ⟨_, rfl⟩
 obtain ⟨cp, ecp⟩ : ∃ cp, cp = cap - 2 := ⟨_, rfl⟩
 have hf2 : 20000 < y ∨ m < y := by
  unfold fld at hf
  rw [← ey, el, if_neg h2, ← em] at hf
  by_cases q1 : 20000 < y
  ·exact .inl q1
  ·rw [if_neg q1] at hf
   by_cases q2 : m < y
   ·exact .inr q2
   ·rw [if_neg q2] at hf; simp at hf
 rw [← em, ← ecp] at T1
 clear hf ey hr em ecp hc hE c1
 by_cases n1 : 20000 < y
 ·have n2 : (20000 : Int) < (y : Int) := by omega
  clear hf2
  go_enter Tryd.func69, Tryd.ntmps69
  go_wp2_with (first | (have hq := HT; go_at_call 62; have h3 := inumber (some ⟨b, off, none⟩) cap (l.take 2) (by rw [unhide HTL]; decide) _ (unhide HT); rw [unhide HTL, ← unhide HEY] at h3; refine h3.mono ?_; clear h3; rintro e w2 ⟨rfl, hw⟩; subst w2; obtain ⟨u2, y2, c2⟩ := (unhide HE1).bounds; clear HE1) | (go_at_call 61; refine T1.mono ?_; clear T1; rintro e w1 ⟨o2, rfl, ht, hd, hb⟩; have HT := hide ht; have HB := hide hb; have HE1 := hide ((unhide HE).below hb); clear ht hd hb))
  go_region_held3 (fun w' => w'.cell? ⟨7, 0, none⟩ = some (.iface u2 y2)) (go_keep) (fail)
  go_wp2
  go_ret3
  exact ⟨⟨_, _, rfl⟩, (unhide HB).drew⟩
 ·have n2 : ¬ (20000 : Int) < (y : Int) := by omega
  have n3 : m < y := by omega
  clear hf2
  go_enter Tryd.func69, Tryd.ntmps69
  go_wp2_with (first | (have hq := HR2; go_at_call 61; obtain ⟨u1, y1, c1⟩ := (unhide HE1).cut; refine (itakeNo (some ⟨b, o2, none⟩) m cp y n3 u1 y1 _ c1).mono ?_; rintro e w3 ⟨rfl, hb3⟩; have HB3 := hide ((unhide HB).trans (hb3.mono (unhide HB).size)); clear hb3 HR2 c1) | (have hq := HT; go_at_call 62; have h3 := inumber (some ⟨b, off, none⟩) cap (l.take 2) (by rw [unhide HTL]; decide) _ (unhide HT); rw [unhide HTL, ← unhide HEY] at h3; refine h3.mono ?_; clear h3; rintro e w2 ⟨rfl, hw⟩; subst w2) | (go_at_call 61; refine T1.mono ?_; clear T1; rintro e w1 ⟨o2, rfl, ht, hd, hb⟩; have HT := hide ht; have HR2 := hide hd; have HB := hide hb; have HE1 := hide ((unhide HE).below hb); clear ht hd hb))
  go_ret3
  exact ⟨⟨_, _, rfl⟩, unhide HB3⟩
end Go.Proofs.YtamjljhbnhdgdaaDoor
