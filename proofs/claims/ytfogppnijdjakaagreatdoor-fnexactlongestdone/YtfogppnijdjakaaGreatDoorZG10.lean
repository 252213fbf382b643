/- Texts put together: AsH AsF TakeI NumI FldI SplitI. -/
import Derived.Test.YtfogppnijdjakaaGreatDoorZG9
import Derived.Test.YtfogppnijdjakaaGreatDoorZG2
/- errors.As hits at once at a struct target. -/
namespace Go.Proofs.YtfogppnijdjakaaGreatDoor
open Go.RowKit Go.Extern.Stop Go.Stop Go.Extern
theorem as_mKind (h : Value) (w : World) : (Go.method 325 161 (.agg #[h]) "Kind").run Tryz.prog w = .ok (142, h) w := by kernel_rfl
theorem as_mElem (h : Value) (w : World) : (Go.method 325 161 (.agg #[h]) "Elem").run Tryz.prog w = .ok (152, .agg #[h]) w := by kernel_rfl
theorem as_mImplements (h : Value) (w : World) : (Go.method 325 161 (.agg #[h]) "Implements").run Tryz.prog w = .ok (153, .agg #[h]) w := by kernel_rfl
theorem as_mAssignableTo (h : Value) (w : World) : (Go.method 325 161 (.agg #[h]) "AssignableTo").run Tryz.prog w = .ok (150, .agg #[h]) w := by kernel_rfl
end Go.Proofs.YtfogppnijdjakaaGreatDoor

/- impl.faultCode of a fault. -/
namespace Go.Proofs.YtfogppnijdjakaaGreatDoor
open Go.RowKit Go.Extern.Stop Go.Stop Go.Extern
end Go.Proofs.YtfogppnijdjakaaGreatDoor

/- impl.take: too short a row, and a long enough one. -/
namespace Go.Proofs.YtfogppnijdjakaaGreatDoor
open Go.RowKit
theorem itakeNo (a : Option Addr) (len cap n : Nat) (hs : len < n) (u : TypeId) (y : Value) (w : World) (hg : w.cell? ⟨0, 0, none⟩ = some (.iface u y)) :
  Calls Tryz.prog 112 #[.slice a len cap, .int .i64 n] w fun e w' => e = .returned (.tuple #[.slice none 0 0, .slice none 0 0, .iface u y]) ∧ Below w.heap.size w w' := by
 have h1 : (len : Int) < (n : Int) := by omega
 go_enter Tryz.func112, Tryz.ntmps112
 go_wp2
 go_region_held3 (fun w' => w'.cell? ⟨0, 0, none⟩ = some (.iface u y)) (go_keep) (fail)
 go_wp2
 go_ret3
 exact ⟨rfl, (Below.refl _ _).drew⟩
theorem itakeOk (b off len cap n : Nat) (hn : n ≤ len) (hc : len ≤ cap) (w : World) :
  Calls Tryz.prog 112 #[.slice (some ⟨b, off, none⟩) len cap, .int .i64 n] w fun e w' => e = .returned (.tuple #[.slice (some ⟨b, off, none⟩) n cap, .slice (if cap = n then some ⟨b, off, none⟩ else some ⟨b, off + n, none⟩) (len - n) (cap - n), .nilIface]) ∧ Below w.heap.size w w' := by
 have h1 : ¬ (len : Int) < (n : Int) := by omega
 have h2 : (n : Int) ≤ (cap : Int) := by omega
 have h3 : (n : Int) ≤ (len : Int) := by omega
 have h4 : (0 : Int) ≤ (n : Int) := by omega
 have h5 : (len : Int) ≤ (cap : Int) := by omega
 go_enter Tryz.func112, Tryz.ntmps112
 go_wp2
 go_region_held3 (fun _ => True) (trivial) (fail)
 go_wp2
 all_goals (go_ret3; exact ⟨rfl, (Below.refl _ _).drew⟩)
theorem row8_take {w : World} {a : Option Addr} {l : List UInt8} (h : Row8 w a l) (n : Nat) : Row8 w a (l.take n) := by
 rcases h with rfl | ⟨b, off, e, hlt, hc⟩
 ·exact .inl (by simp)
 ·refine .inr ⟨b, off, e, hlt, fun i hi => ?_⟩
  rw [List.length_take] at hi
  rw [hc i (by omega), List.getElem_take]
theorem row8_drop {w : World} {b off : Nat} {l : List UInt8} (h : Row8 w (some ⟨b, off, none⟩) l) (n : Nat) : Row8 w (some ⟨b, off + n, none⟩) (l.drop n) := by
 rcases h with rfl | ⟨b', off', e, hlt, hc⟩
 ·exact .inl (by simp)
 ·simp only [Option.some.injEq, Addr.mk.injEq, and_true] at e
  obtain ⟨rfl, rfl⟩ := e
  refine .inr ⟨b, off + n, rfl, hlt, fun i hi => ?_⟩
  rw [List.length_drop] at hi
  rw [Nat.add_assoc, hc (n + i) (by omega), List.getElem_drop]
/-- The first n bytes of a row and what stands behind them. -/
theorem itake (b off cap n : Nat) (l : List UInt8) (len : Nat) (el : l.length = len) (hn : n ≤ len) (hc : len ≤ cap) (w : World) (hr : Row8 w (some ⟨b, off, none⟩) l) :
  Calls Tryz.prog 112 #[.slice (some ⟨b, off, none⟩) len cap, .int .i64 n] w fun e w' => ∃ o2, e = .returned (.tuple #[.slice (some ⟨b, off, none⟩) n cap, .slice (some ⟨b, o2, none⟩) (len - n) (cap - n), .nilIface]) ∧ Row8 w' (some ⟨b, off, none⟩) (l.take n) ∧ Row8 w' (some ⟨b, o2, none⟩) (l.drop n) ∧ Below w.heap.size w w' := by
 refine (itakeOk b off len cap n hn hc w).mono ?_
 rintro e w' ⟨rfl, hb⟩
 by_cases h : cap = n
 ·refine ⟨off, by rw [if_pos h], (row8_take hr n).below hb, .inl (List.drop_eq_nil_of_le (by omega)), hb⟩
 ·refine ⟨off + n, by rw [if_neg h], (row8_take hr n).below hb, (row8_drop hr n).below hb, hb⟩
end Go.Proofs.YtfogppnijdjakaaGreatDoor

/- numberOf: the number of a row of bytes. -/
namespace Go.Proofs.YtfogppnijdjakaaGreatDoor
open Go.ChangeShapes Go.WideShapes Go.ChangeAt Go.RowKit
set_option maxHeartbeats 400000 in
set_option maxRecDepth 100000 in
/-- numberOf: the number of at most four bytes. -/
theorem inumber (a : Option Addr) (cap : Nat) (l : List UInt8) (hl : l.length ≤ 4) (w : World) (hr : Row8 w a l) :
  Calls Tryz.prog 113 #[.slice a l.length cap] w fun e w' => e = .returned (.int .i64 ((ofBE l : Nat) : Int)) ∧ w' = w := by
 have HR := hide hr
 clear hr
 go_enter Tryz.func113, Tryz.ntmps113
 go_wp2_with fail
 go_loop [3, 8] (fun r i => ∃ k y : Nat, k ≤ l.length ∧ i = .int .i64 k ∧ r = .int .i64 (y : Int) ∧ Hid (y = ofBE (l.take k))) (fun _ i => l.length - (intOf i).toNat)
 case atStart => exact ⟨0, 0, by omega, rfl, rfl, rfl⟩
 case round =>
  obtain ⟨k, y, hk, rfl, rfl, HY⟩ := hrel
  have hy : y < 256 ^ k := by have := ofBE_lt l k; rw [← unhide HY] at this; exact this
  by_cases hlt : k < l.length
  ·obtain ⟨b, off, ha, hblt, hc⟩ := (unhide HR).at (by omega)
   subst ha
   have hy2 : y < 16777216 := Nat.lt_of_lt_of_le hy (Nat.le_trans (Nat.pow_le_pow_right (by decide) (show k ≤ 3 by omega)) (by decide))
   have hc1 := hc k hlt
   have hlt' : (k : Int) < (l.length : Int) := by omega
   have hcv := l[k].toNat_lt
   have h2 : bits BinOp.or IntKind.i64 ((y : Int) * 256) (l[k].toNat : Int) = ((y * 256 + l[k].toNat : Nat) : Int) := or_byte y l[k].toNat (by omega) (by omega)
   have c0 : (l[k].toNat : Int) ≤ 255 := by omega
   have y0 : (y : Int) ≤ 16777216 := by omega
   clear hc HR hy hblt hcv hy2
   go_wp2_with fail
   go_round
   case rel => exact ⟨k + 1, y * 256 + l[k].toNat, by omega, by go_num, rfl, by show _ = _; rw [ofBE_snoc l k hlt, unhide HY]⟩
   case measure => simp [intOf]; omega
  ·have HV : Hid (((ofBE l : Nat) : Int) = (y : Int)) := by show _ = _; rw [unhide HY, List.take_of_length_le (by omega)]
   clear hy
   go_wp2_with fail
   go_ret
   exact ⟨ret_int (unhide HV).symm, rfl⟩
end Go.Proofs.YtfogppnijdjakaaGreatDoor

/- impl.takeField: one field of a row of bytes, and what stands behind it. -/
namespace Go.Proofs.YtfogppnijdjakaaGreatDoor
open Go.ChangeShapes Go.WideShapes Go.ChangeAt Go.RowKit
/-- One field and what stands behind it; none where the bytes are cut off or the length is out of its bounds. -/
def fld (l : List UInt8) : Option (List UInt8 × List UInt8) :=
 if l.length < 2 then none else if 20000 < ofBE (l.take 2) then none else if l.length - 2 < ofBE (l.take 2) then none
 else some ((l.drop 2).take (ofBE (l.take 2)), (l.drop 2).drop (ofBE (l.take 2)))
theorem fld_some {l x r : List UInt8} (h : fld l = some (x, r)) : 2 ≤ l.length ∧ ofBE (l.take 2) ≤ 20000 ∧ ofBE (l.take 2) ≤ l.length - 2 ∧ x = (l.drop 2).take (ofBE (l.take 2)) ∧ r = (l.drop 2).drop (ofBE (l.take 2)) := by
 unfold fld at h
 split at h
 ·simp at h
 ·split at h
  ·simp at h
  ·split at h
   ·simp at h
   ·simp only [Option.some.injEq, Prod.mk.injEq] at h
    exact ⟨by omega, by omega, by omega, h.1.symm, h.2.symm⟩
set_option maxHeartbeats 400000 in
theorem itakefieldOk (b off cap len : Nat) (l x r : List UInt8) (el : l.length = len) (hc : len ≤ cap) (hf : fld l = some (x, r)) (w : World) (hr : Row8 w (some ⟨b, off, none⟩) l) :
  Calls Tryz.prog 125 #[.slice (some ⟨b, off, none⟩) len cap] w fun e w' => ∃ o1 o2, e = .returned (.tuple #[.slice (some ⟨b, o1, none⟩) x.length (cap - 2), .slice (some ⟨b, o2, none⟩) r.length (cap - 2 - x.length), .nilIface]) ∧ Row8 w' (some ⟨b, o1, none⟩) x ∧ Row8 w' (some ⟨b, o2, none⟩) r ∧ Below w.heap.size w w' := by
 obtain ⟨h2, hy, hle, ex, er⟩ := fld_some hf
 rw [el] at h2 hle
 have HTL : Hid ((l.take 2).length = 2) := by show _ = _; rw [List.length_take]; omega
 have HDL : Hid ((l.drop 2).length = len - 2) := by show _ = _; rw [List.length_drop, el]
 have T1 := itake b off cap 2 l len el h2 hc w hr
 change Calls _ _ #[_, .int .i64 2] _ _ at T1
 obtain ⟨y, ey⟩ : ∃ y : Nat, y = ofBE (l.take 2) := ⟨_, rfl⟩
 rw [← ey] at hy hle ex er
 have xl : x.length = y := by rw [ex, List.length_take, unhide HDL]; omega
 have rl : r.length = len - 2 - y := by rw [er, List.length_drop, unhide HDL]
 rw [xl, rl]
 have HEY := hide ey
 have HEX := hide ex
 have HER := hide er
 obtain ⟨m, em⟩ : ∃ m, m = len - 2 := ⟨_, rfl⟩
 obtain ⟨cp, ecp⟩ : ∃ cp, cp = cap - 2 := ⟨_, rfl⟩
 rw [← em, ← ecp] at T1 ⊢
 rw [← em] at HDL hle
 have hc2 : m ≤ cp := by omega
 have n1 : ¬ (20000 : Int) < (y : Int) := by omega
 clear hf ey ex er xl rl hr em ecp hc
 go_enter Tryz.func125, Tryz.ntmps125
 go_wp2_with (first | (have hq := HR2; go_at_call 112; refine (itake b o2 cp y (l.drop 2) m (unhide HDL) hle hc2 _ (unhide HR2)).mono ?_; rintro e w3 ⟨o3, rfl, hx, hrr, hb3⟩; have HX := hide hx; have HRR := hide hrr; have HB3 := hide ((unhide HB).trans (hb3.mono (unhide HB).size)); clear hx hrr hb3 HR2) | (have hq := HT; go_at_call 113; have h3 := inumber (some ⟨b, off, none⟩) cap (l.take 2) (by rw [unhide HTL]; decide) _ (unhide HT); rw [unhide HTL, ← unhide HEY] at h3; refine h3.mono ?_; clear h3; rintro e w2 ⟨rfl, hw⟩; subst w2) | (go_at_call 112; refine T1.mono ?_; clear T1; rintro e w1 ⟨o2, rfl, ht, hd, hb⟩; have HT := hide ht; have HR2 := hide hd; have HB := hide hb; clear ht hd hb))
 go_ret3
 refine ⟨o2, o3, rfl, ?_, ?_, unhide HB3⟩
 ·rw [unhide HEX]; exact unhide HX
 ·rw [unhide HER]; exact unhide HRR
/-- What the listed variables hold that reading asks for. -/
structure ErrsIn (w : World) : Prop where
 type : w.cell? ⟨8, 0, none⟩ = some (.iface 161 (.agg #[.pointer (some ⟨10, 130, none⟩)]))
 cut : ∃ u y, w.cell? ⟨0, 0, none⟩ = some (.iface u y)
 bounds : ∃ u y, w.cell? ⟨6, 0, none⟩ = some (.iface u y)
 behind : ∃ u y, w.cell? ⟨9, 0, none⟩ = some (.iface u y)
theorem ErrsIn.below {w w' : World} (h : ErrsIn w) (hb : Below w.heap.size w w') : ErrsIn w' := by
 obtain ⟨t, ⟨u1, y1, c1⟩, ⟨u2, y2, c2⟩, ⟨u3, y3, c3⟩⟩ := h
 exact ⟨cell_later hb t, ⟨u1, y1, cell_later hb c1⟩, ⟨u2, y2, cell_later hb c2⟩, ⟨u3, y3, cell_later hb c3⟩⟩
set_option maxHeartbeats 400000 in
theorem itakefieldNo (b off cap len : Nat) (l : List UInt8) (el : l.length = len) (hc : len ≤ cap) (hf : fld l = none) (w : World) (hE : ErrsIn w) (hr : Row8 w (some ⟨b, off, none⟩) l) :
  Calls Tryz.prog 125 #[.slice (some ⟨b, off, none⟩) len cap] w fun e w' => (∃ u y, e = .returned (.tuple #[.slice none 0 0, .slice none 0 0, .iface 150 (.agg #[.int .i64 3, .iface u y])])) ∧ Below w.heap.size w w' := by
 obtain ⟨u1, y1, c1⟩ := hE.cut
 by_cases h2 : len < 2
 ·have T1 := itakeNo (some ⟨b, off, none⟩) len cap 2 h2 u1 y1 w c1
  change Calls _ _ #[_, .int .i64 2] _ _ at T1
  clear hf hr hE
  go_enter Tryz.func125, Tryz.ntmps125
  go_wp2_with (go_at_call 112; refine T1.mono ?_; clear T1; rintro e w1 ⟨rfl, hb⟩)
  go_ret3
  exact ⟨⟨_, _, rfl⟩, hb⟩
 have HTL : Hid ((l.take 2).length = 2) := by show _ = _; rw [List.length_take]; omega
 have HDL : Hid ((l.drop 2).length = len - 2) := by show _ = _; rw [List.length_drop, el]
 have T1 := itake b off cap 2 l len el (by omega) hc w hr
 change Calls _ _ #[_, .int .i64 2] _ _ at T1
 obtain ⟨y, ey⟩ : ∃ y : Nat, y = ofBE (l.take 2) := ⟨_, rfl⟩
 have HEY := hide ey
 have HE := hide hE
 obtain ⟨m, em⟩ : ∃ m, m = len - 2 := ⟨_, rfl⟩
 obtain ⟨cp, ecp⟩ : ∃ cp, cp = cap - 2 := ⟨_, rfl⟩
 have hf2 : 20000 < y ∨ m < y := by
  unfold fld at hf
  rw [← ey, el, if_neg h2, ← em] at hf
  by_cases q1 : 20000 < y
  ·exact .inl q1
  ·rw [if_neg q1] at hf
   by_cases q2 : m < y
   ·exact .inr q2
   ·rw [if_neg q2] at hf; simp at hf
 rw [← em, ← ecp] at T1
 clear hf ey hr em ecp hc hE c1
 by_cases n1 : 20000 < y
 ·have n2 : (20000 : Int) < (y : Int) := by omega
  clear hf2
  go_enter Tryz.func125, Tryz.ntmps125
  go_wp2_with (first | (have hq := HT; go_at_call 113; have h3 := inumber (some ⟨b, off, none⟩) cap (l.take 2) (by rw [unhide HTL]; decide) _ (unhide HT); rw [unhide HTL, ← unhide HEY] at h3; refine h3.mono ?_; clear h3; rintro e w2 ⟨rfl, hw⟩; subst w2; obtain ⟨u2, y2, c2⟩ := (unhide HE1).bounds; clear HE1) | (go_at_call 112; refine T1.mono ?_; clear T1; rintro e w1 ⟨o2, rfl, ht, hd, hb⟩; have HT := hide ht; have HB := hide hb; have HE1 := hide ((unhide HE).below hb); clear ht hd hb))
  go_region_held3 (fun w' => w'.cell? ⟨6, 0, none⟩ = some (.iface u2 y2)) (go_keep) (fail)
  go_wp2
  go_ret3
  exact ⟨⟨_, _, rfl⟩, (unhide HB).drew⟩
 ·have n2 : ¬ (20000 : Int) < (y : Int) := by omega
  have n3 : m < y := by omega
  clear hf2
  go_enter Tryz.func125, Tryz.ntmps125
  go_wp2_with (first | (have hq := HR2; go_at_call 112; obtain ⟨u1, y1, c1⟩ := (unhide HE1).cut; refine (itakeNo (some ⟨b, o2, none⟩) m cp y n3 u1 y1 _ c1).mono ?_; rintro e w3 ⟨rfl, hb3⟩; have HB3 := hide ((unhide HB).trans (hb3.mono (unhide HB).size)); clear hb3 HR2 c1) | (have hq := HT; go_at_call 113; have h3 := inumber (some ⟨b, off, none⟩) cap (l.take 2) (by rw [unhide HTL]; decide) _ (unhide HT); rw [unhide HTL, ← unhide HEY] at h3; refine h3.mono ?_; clear h3; rintro e w2 ⟨rfl, hw⟩; subst w2) | (go_at_call 112; refine T1.mono ?_; clear T1; rintro e w1 ⟨o2, rfl, ht, hd, hb⟩; have HT := hide ht; have HR2 := hide hd; have HB := hide hb; have HE1 := hide ((unhide HE).below hb); clear ht hd hb))
  go_ret3
  exact ⟨⟨_, _, rfl⟩, unhide HB3⟩
end Go.Proofs.YtfogppnijdjakaaGreatDoor

/- impl.splitFields: the fields of a row of bytes. -/
namespace Go.Proofs.YtfogppnijdjakaaGreatDoor
open Go.ChangeShapes Go.WideShapes Go.ChangeAt Go.RowKit
/-- The first k fields and what stands behind them. -/
def fldN (l : List UInt8) : Nat → Option (List ByteArray × List UInt8)
 | 0 => some ([], l)
 | k + 1 => (fldN l k).bind fun p => (fld p.2).bind fun q => some (p.1 ++ [⟨q.1.toArray⟩], q.2)
theorem fldN_len (l : List UInt8) : ∀ k m r, fldN l k = some (m, r) → m.length = k ∧ r.length ≤ l.length
 | 0, m, r, h => by simp only [fldN, Option.some.injEq, Prod.mk.injEq] at h; obtain ⟨rfl, rfl⟩ := h; simp
 | k + 1, m, r, h => by
  simp only [fldN] at h
  cases hk : fldN l k with
  | none => rw [hk] at h; simp at h
  | some p =>
   obtain ⟨m', r'⟩ := p
   have ih := fldN_len l k m' r' hk
   rw [hk, Option.bind_some] at h
   cases hf : fld r' with
   | none => simp only [hf] at h; simp at h
   | some q =>
    obtain ⟨x, y⟩ := q
    simp only [hf, Option.bind_some, Option.some.injEq, Prod.mk.injEq] at h
    obtain ⟨rfl, rfl⟩ := h
    obtain ⟨h2, hy, hle, ex, er⟩ := fld_some hf
    refine ⟨by simp [ih.1], ?_⟩
    rw [er, List.length_drop, List.length_drop]; omega
theorem fldN_none (l : List UInt8) (k : Nat) (h : fldN l k = none) : ∀ j, fldN l (k + j) = none
 | 0 => h
 | j + 1 => by rw [← Nat.add_assoc]; simp only [fldN]; rw [fldN_none l k h j]; rfl
theorem nil_ownS (w : World) (base : Nat) (t : TypeId) : w.ownsRow base t 1 (.slice none 0 0) ([] : List ByteArray).length (cS []) := World.ownsRow_nil w base t 1
theorem own_appS {w : World} {base : Nat} {e : TypeId} {v : Value} {l m : List ByteArray} {n : Nat} (h : w.ownsRow base e 1 v (l.length + n) (cS l ++ cS m)) (hn : m.length = n) : w.ownsRow base e 1 v (l ++ m).length (cS (l ++ m)) := by
 rw [cS_app, List.length_append, hn]; exact h
theorem row8_low {w w' : World} {B b o : Nat} {l : List UInt8} (h : Row8 w (some ⟨b, o, none⟩) l) (hB : b < B) (hb : Below B w w') : Row8 w' (some ⟨b, o, none⟩) l := by
 rcases h with h | ⟨b', off, e, hlt, hc⟩
 ·exact .inl h
 ·simp only [Option.some.injEq, Addr.mk.injEq, and_true] at e
  obtain ⟨rfl, rfl⟩ := e
  exact .inr ⟨b, o, rfl, Nat.lt_of_lt_of_le hlt hb.size, fun i hi => (hb.cell (p := ⟨b, o + i, none⟩) hB).trans (hc i hi)⟩
/-- What splitFields answers of n fields in l. -/
def SplitR (l : List UInt8) (n : Nat) (w : World) (e : Ending) (w' : World) : Prop :=
 ((∃ m v, fldN l n = some (m, []) ∧ e = .returned (.tuple #[v, .nilIface]) ∧ w'.ownsRow w.heap.size 9 1 v m.length (cS m))
  ∨ ((∀ m, fldN l n ≠ some (m, [])) ∧ ∃ u y, e = .returned (.tuple #[.slice none 0 0, .iface 150 (.agg #[.int .i64 3, .iface u y])]))) ∧ Below w.heap.size w w'
set_option maxHeartbeats 400000 in
set_option maxRecDepth 100000 in
theorem isplitGo (b off cap len n : Nat) (l : List UInt8) (el : l.length = len) (hc : len ≤ cap) (h1 : 1 ≤ len) (hl : len ≤ 65536) (en : n = ofBE (l.take 1)) (h60 : n ≤ 60) (w : World) (hE : ErrsIn w) (hr : Row8 w (some ⟨b, off, none⟩) l) :
  Calls Tryz.prog 119 #[.slice (some ⟨b, off, none⟩) len cap] w fun e w' => SplitR (l.drop 1) n w e w' := by
 obtain ⟨i0, hi, hz0, hz1, hz2⟩ := info_parts Tryz.infL9
 have HTL : Hid ((l.take 1).length = 1) := by show _ = _; rw [List.length_take]; omega
 have HDL : Hid ((l.drop 1).length = len - 1) := by show _ = _; rw [List.length_drop, el]
 have HLow : Hid (b < w.heap.size) := by
  obtain ⟨b', off', e, hlt, _⟩ := hr.at (by omega)
  simp only [Option.some.injEq, Addr.mk.injEq, and_true] at e
  show _ < _; rw [e.1]; exact hlt
 have T1 := itake b off cap 1 l len el h1 hc w hr
 change Calls _ _ #[_, .int .i64 1] _ _ at T1
 obtain ⟨q0, eq0⟩ : ∃ q0, q0 = l.drop 1 := ⟨_, rfl⟩
 have hq1 : len - 1 ≤ cap - 1 := by omega
 have hq2 : len - 1 ≤ 65536 := by omega
 rw [← eq0] at T1 HDL ⊢
 clear eq0 hc h1 hl el
 have HEY := hide en
 have HE := hide hE
 have n1 : ¬ (60 : Int) < (n : Int) := by omega
 clear en hr hE
 go_enter Tryz.func119, Tryz.ntmps119
 go_wp2_with (first | (have hq := HT; go_at_call 113; have h3 := inumber (some ⟨b, off, none⟩) cap (l.take 1) (by rw [unhide HTL]; decide) _ (unhide HT); rw [unhide HTL, ← unhide HEY] at h3; refine h3.mono ?_; clear h3; rintro e w2 ⟨rfl, hw⟩; subst w2) | (go_at_call 112; refine T1.mono ?_; clear T1; rintro e w1 ⟨o2, rfl, ht, hd, hb⟩; have HT := hide ht; have HR2 := hide hd; have HB := hide hb; have HE1 := hide ((unhide HE).below hb); clear ht hd hb))
 go_loopw [5, 7, 30] (fun r v i wr => ∃ (k o q cq : Nat) (m : List ByteArray) (rr : List UInt8), k ≤ n ∧ i = .int .i64 k ∧ r = .slice (some ⟨b, o, none⟩) q cq ∧ q ≤ cq ∧ q ≤ 65536 ∧ m.length ≤ k ∧ Hid (fldN q0 k = some (m, rr)) ∧ Hid (rr.length = q) ∧ Hid (Row8 wr (some ⟨b, o, none⟩) rr) ∧ Hid (wr.ownsRow w.heap.size 9 1 v m.length (cS m)) ∧ Hid (Below w.heap.size w wr)) (fun _ _ i _ => n - (intOf i).toNat)
 case atStart => exact ⟨0, o2, len - 1, cap - 1, [], q0, by omega, rfl, rfl, hq1, hq2, Nat.le_refl _, rfl, HDL, HR2, nil_ownS _ _ _, HB⟩
 case round =>
  obtain ⟨k, o, q, cq, m, rr, hk, rfl, rfl, hcq, hq3, hm, HF, HL, HRR, HO, HBr⟩ := hrel
  have HEr := hide ((unhide HE).below (unhide HBr))
  by_cases hlt : k < n
  ·have hj : (k : Int) < (n : Int) := by omega
   cases hf : fld rr with
   | none =>
    have HN : Hid (∀ m, fldN q0 n ≠ some (m, [])) := by
     have h0 : fldN q0 (k + 1) = none := by simp only [fldN]; rw [unhide HF]; simp [hf]
     have h1 := fldN_none q0 (k + 1) h0 (n - (k + 1))
     rw [show k + 1 + (n - (k + 1)) = n by omega] at h1
     show ∀ m, _ ≠ _
     intro m h; rw [h1] at h; cases h
    have T2 := itakefieldNo b o cq q rr (unhide HL) hcq hf wr (unhide HEr) (unhide HRR)
    clear hf HEr HRR HO HE1 HE HT HR2
    go_wp2_with (go_at_call 125; refine T2.mono ?_; clear T2; rintro e w3 ⟨⟨u, y, rfl⟩, hb3⟩; have HB3 := hide ((unhide HBr).trans (hb3.mono (unhide HBr).size)); clear hb3)
    go_ret2
    exact ⟨.inr ⟨unhide HN, _, _, rfl⟩, unhide HB3⟩
   | some p =>
    obtain ⟨x, r2⟩ := p
    have HN : Hid (fldN q0 (k + 1) = some (m ++ [⟨x.toArray⟩], r2)) := by show _ = _; simp only [fldN]; rw [unhide HF]; simp [hf]
    have T2 := itakefieldOk b o cq q rr x r2 (unhide HL) hcq hf wr (unhide HRR)
    obtain ⟨f2, fy, fle, fx, fr⟩ := fld_some hf
    rw [unhide HL] at f2 fle
    have xq : x.length ≤ 65536 := by rw [fx, List.length_take]; omega
    have rq : r2.length ≤ q := by rw [fr, List.length_drop, List.length_drop, unhide HL]; omega
    have xr : r2.length ≤ cq - 2 - x.length := by rw [fr, fx, List.length_drop, List.length_drop, List.length_take, List.length_drop, unhide HL]; omega
    obtain ⟨xl, exl⟩ : ∃ xl, xl = x.length := ⟨_, rfl⟩
    obtain ⟨rl, erl⟩ : ∃ rl, rl = r2.length := ⟨_, rfl⟩
    obtain ⟨c1, ec1⟩ : ∃ c1, c1 = cq - 2 := ⟨_, rfl⟩
    obtain ⟨c2, ec2⟩ : ∃ c2, c2 = cq - 2 - x.length := ⟨_, rfl⟩
    rw [← ec2, ← exl, ← erl, ← ec1] at T2
    rw [← ec2, ← erl] at xr
    rw [← erl] at rq
    have HRL : Hid (r2.length = rl) := erl.symm
    have HXL := hide exl
    clear hf HEr HRR HE1 HE HT HR2 f2 fy fle fx fr xq exl erl ec1 ec2
    go_wp2_with (first | (at_builtin; (refine wpList_append_lies _ rfl (.tmp 41) (.tmp 44) 25 rfl w.heap.size 9 i0 (.string ⟨#[]⟩) 1 16 Tryz.underlying25 hi hz0 hz1 hz2 rfl (by decide) _ _ _ rfl ((unhide HO3).alloc _) ⟨w3.heap.size, 0, none⟩ 1 1 (cS [⟨x.toArray⟩]) rfl rfl (by exact news_new w3 (cS [⟨x.toArray⟩]) 9) (cS_one _) (by decide) (by unfold maxLen; omega) (by omega) (by simp; omega) _ rfl ?_; intro g2 d2 w2 hown2 hgrow2 hat2 hlt2; have HB2 := hide (below_app (unhide HB3) (unhide HB3).size (unhide HO3) (Nat.le_refl _) hgrow2); have HR4 : Hid (Row8 w2 (some ⟨b, o4, none⟩) r2) := row8_low (unhide HR3) (unhide HLow) (below_app (Below.refl _ _) (unhide HB3).size (unhide HO3) (Nat.le_refl _) hgrow2); have HO2 := hide (own_appS (l := m) (m := [⟨x.toArray⟩]) hown2 rfl); clear hown2 hgrow2 hat2 hlt2)) | (go_at_call 125; refine T2.mono ?_; clear T2; rintro e w3 ⟨o3, o4, rfl, hx, hr3, hb3⟩; have HB3 := hide ((unhide HBr).trans (hb3.mono (unhide HBr).size)); have hcv := conv_row8 (P := Tryz.prog) (src := 94) (dst := 9) (e := 5) (cap := c1) Tryz.underlying94 Tryz.underlying5 Tryz.underlying9 hx; rw [← unhide HXL] at hcv; have HR3 := hide hr3; have HO3 := hide ((held_of (unhide HO)).below hb3 (Nat.le_refl _)).own; have hz := (unhide HB3).size; clear hx hr3 hb3))
    go_roundw
    case rel => exact ⟨k + 1, o4, rl, c2, m ++ [⟨x.toArray⟩], r2, by omega, by go_num, rfl, xr, Nat.le_trans rq hq3, by rw [List.length_append]; exact Nat.add_le_add_right hm 1, HN, HRL, HR4, HO2, HB2⟩
    case measure => simp [intOf]; omega
  ·have ek : k = n := by omega
   subst ek
   have hj : ¬ (k : Int) < (k : Int) := by omega
   clear hlt
   by_cases hq4 : q = 0
   ·subst hq4
    have HN : Hid (fldN q0 k = some (m, [])) := by
     have h0 : rr = [] := List.eq_nil_of_length_eq_zero (unhide HL)
     show _ = _; rw [unhide HF, h0]
    go_wp2_with fail
    go_ret2
    exact ⟨.inl ⟨m, _, unhide HN, rfl, unhide HO⟩, unhide HBr⟩
   ·have HN : Hid (∀ m, fldN q0 k ≠ some (m, [])) := by
     show ∀ m, _ ≠ _
     intro m2 h; rw [unhide HF] at h
     simp only [Option.some.injEq, Prod.mk.injEq] at h
     have := unhide HL; rw [h.2] at this; simp at this; omega
    have hq5 : (0 : Int) < (q : Int) := by omega
    obtain ⟨u3, y3, c3⟩ := (unhide HEr).behind
    go_wp2_with fail
    go_region_held3 (fun w' => w'.cell? ⟨9, 0, none⟩ = some (.iface u3 y3)) (go_keep) (fail)
    go_wp2_with fail
    go_ret2
    exact ⟨.inr ⟨unhide HN, _, _, rfl⟩, (unhide HBr).drew⟩
end Go.Proofs.YtfogppnijdjakaaGreatDoor
