/- Texts put together: IsE StE ByteS Crc. -/
import Derived.Test.YtjjdeejajbmecaaGreatDoorZG0
import Derived.LaidEql
import Derived.Stop.Asserts
import Derived.RowKitTokens
import Derived.Test.YtjjdeejajbmecaaGreatDoorZG1
import Derived.Laws.BitsAllLaws
import Derived.Laws.BitsLemmas
/- errors.Is where both errors are of errors.New's make: what it answers. Go's own text is walked. -/
namespace Go.Proofs.YtjjdeejajbmecaaGreatDoor
open Go.ChangeShapes Go.WideShapes Go.ChangeAt Go.RowKit Go.Extern.Stop Go.Stop Go.Extern
theorem Tryz.eComp : (Tryz.prog.info? 190).map (·.comparable) = some true := by kernel_rfl
theorem Tryz.eSize : (Tryz.prog.info? 210).map (·.size) = some 1 := by kernel_rfl
/-- What is asked of the target's type. -/
theorem typeOfE (v : Value) (w : World) : (callFunc 102 #[.iface 190 v]).run Tryz.prog w = .ok (.value (.iface 157 (.agg #[.pointer (some ⟨10, 190, none⟩)]))) w := by
 rw [@run_callFunc_extern Tryz.prog 102 _ Extern.ReflectliteType.typeOf Tryz.func102 (by kernel_rfl) (by kernel_rfl) (by kernel_rfl) (by kernel_rfl)]
 kernel_rfl
theorem compOfE (w : World) : (callFunc 146 #[.agg #[.pointer (some ⟨10, 190, none⟩)]]).run Tryz.prog w = .ok (.value (.bool true)) w := by
 rw [@run_callFunc_extern Tryz.prog 146 _ (Extern.ReflectliteType.method fun t => do Rtype.noPackHeld "Comparable" t; pure (.bool (← typeInfo t).comparable)) Tryz.func146 (by kernel_rfl) (by kernel_rfl) (by kernel_rfl) (by kernel_rfl)]
 kernel_rfl
theorem methOfE (v : Value) (w : World) : (Go.method 321 157 v "Comparable").run Tryz.prog w = .ok (146, v) w := by kernel_rfl
/-- An error of errors.New's make has none of the methods that errors.Is asks for. -/
theorem lackE (v : Value) (xT : TypeId) (w : World) : (Instr.typeAssert (.iface 190 v) xT 159 true).run Tryz.prog w = .ok (.tuple #[.nilIface, .bool false]) w ∧ (Instr.typeAssert (.iface 190 v) xT 162 true).run Tryz.prog w = .ok (.tuple #[.nilIface, .bool false]) w ∧ (Instr.typeAssert (.iface 190 v) xT 164 true).run Tryz.prog w = .ok (.tuple #[.nilIface, .bool false]) w :=
 ⟨run_typeAssert_lacksB Tryz.underlying159 (by kernel_rfl) (by kernel_rfl) v xT w, run_typeAssert_lacksB Tryz.underlying162 (by kernel_rfl) (by kernel_rfl) v xT w, run_typeAssert_lacksB Tryz.underlying164 (by kernel_rfl) (by kernel_rfl) v xT w⟩
set_option maxHeartbeats 1000000 in
set_option maxRecDepth 100000 in
/-- Two errors of errors.New's make: errors.Is says whether they are one. -/
theorem iis (a b : Addr) (R : Bool) (w : World) (h : (R = true ∧ a = b) ∨ (R = false ∧ a ≠ b ∧ (∃ c t, w.heap[a.block]? = some (.cells c t (0, 0))) ∧ ∃ c t, w.heap[b.block]? = some (.cells c t (0, 0)))) :
  Calls Tryz.prog 98 #[.iface 190 (.pointer (some a)), .iface 190 (.pointer (some b))] w fun e w' => e = .returned (.bool R) ∧ w' = w := by
 obtain ⟨i, hi, hcmp⟩ := Option.map_eq_some_iff.1 Tryz.eComp
 obtain ⟨j, hj, hjs⟩ := Option.map_eq_some_iff.1 Tryz.eSize
 have tT := typeOfE
 have cT := compOfE
 have mR := methOfE
 have l1 := fun v xT w => (lackE v xT w).1
 have l2 := fun v xT w => (lackE v xT w).2.1
 have l3 := fun v xT w => (lackE v xT w).2.2
 rcases h with ⟨rfl, rfl⟩ | ⟨rfl, hne, ⟨ca, ta, ha⟩, cb, tb, hb⟩
 ·have heq := run_eql_iface_ptr_same (P := Tryz.prog) w a Tryz.underlying126 Tryz.underlying190 hi hcmp hj
  go_enter Tryz.func98, Tryz.ntmps98
  go_wp2
  refine wp_loop_rounds 1 ?_
  rw [rounds_succ]
  go_wp2
  go_ret
  exact ⟨rfl, rfl⟩
 ·have heq := run_eql_iface_ptr_other (P := Tryz.prog) w Tryz.underlying126 Tryz.underlying190 hi hcmp hj (by rw [hjs]; decide) hne ha hb
  go_enter Tryz.func98, Tryz.ntmps98
  go_wp2
  refine wp_loop_rounds 1 ?_
  rw [rounds_succ]
  go_wp2
  go_ret
  exact ⟨rfl, rfl⟩
end Go.Proofs.YtjjdeejajbmecaaGreatDoor

/- The named errors of stores: what the listed variables hold; storeCode. -/
namespace Go.Proofs.YtjjdeejajbmecaaGreatDoor
open Go.ChangeShapes Go.WideShapes Go.ChangeAt Go.RowKit
set_option linter.unusedVariables false
/-- Five named errors, each of its own. -/
structure StE (w : World) (x0 x1 x2 x3 x4 : Addr) : Prop where
 g0 : w.cell? ⟨1, 0, none⟩ = some (.iface 190 (.pointer (some x0)))
 g1 : w.cell? ⟨2, 0, none⟩ = some (.iface 190 (.pointer (some x1)))
 g2 : w.cell? ⟨3, 0, none⟩ = some (.iface 190 (.pointer (some x2)))
 g3 : w.cell? ⟨4, 0, none⟩ = some (.iface 190 (.pointer (some x3)))
 g4 : w.cell? ⟨5, 0, none⟩ = some (.iface 190 (.pointer (some x4)))
 b0 : ∃ c t, w.heap[x0.block]? = some (.cells c t (0, 0))
 b1 : ∃ c t, w.heap[x1.block]? = some (.cells c t (0, 0))
 b2 : ∃ c t, w.heap[x2.block]? = some (.cells c t (0, 0))
 b3 : ∃ c t, w.heap[x3.block]? = some (.cells c t (0, 0))
 b4 : ∃ c t, w.heap[x4.block]? = some (.cells c t (0, 0))
 ne : [x0, x1, x2, x3, x4].Pairwise (· ≠ ·)
theorem cell_old {w w' : World} {a : Addr} {v : Value} (hb : Below w.heap.size w w') (h : w.cell? a = some v) : w'.cell? a = some v := (hb.cell (p := a) (World.block_lt_of_cell? w _ h)).trans h
theorem blk_old {w w' : World} {n : Nat} (hb : Below w.heap.size w w') (h : ∃ c t, w.heap[n]? = some (.cells c t (0, 0))) : ∃ c t, w'.heap[n]? = some (.cells c t (0, 0)) := by
 obtain ⟨c, t, h⟩ := h
 exact ⟨c, t, (hb.block n (by obtain ⟨h1, -⟩ := Array.getElem?_eq_some_iff.1 h; exact h1)).trans h⟩
theorem StE.below {w w' : World} {x0 x1 x2 x3 x4 : Addr} (h : StE w x0 x1 x2 x3 x4) (hb : Below w.heap.size w w') : StE w' x0 x1 x2 x3 x4 :=
 ⟨cell_old hb h.g0, cell_old hb h.g1, cell_old hb h.g2, cell_old hb h.g3, cell_old hb h.g4, blk_old hb h.b0, blk_old hb h.b1, blk_old hb h.b2, blk_old hb h.b3, blk_old hb h.b4, h.ne⟩
theorem StE.pairs {w : World} {x0 x1 x2 x3 x4 : Addr} (h : StE w x0 x1 x2 x3 x4) : (x0 ≠ x1 ∧ x0 ≠ x2 ∧ x0 ≠ x3 ∧ x0 ≠ x4) ∧ (x1 ≠ x2 ∧ x1 ≠ x3 ∧ x1 ≠ x4) ∧ (x2 ≠ x3 ∧ x2 ≠ x4) ∧ x3 ≠ x4 := by
 have := h.ne; simp at this; exact this
set_option maxHeartbeats 1000000 in
set_option maxRecDepth 100000 in
theorem icode_0 {x0 x1 x2 x3 x4 : Addr} (w : World) (h : StE w x0 x1 x2 x3 x4) : Calls Tryz.prog 92 #[.iface 190 (.pointer (some x0))] w fun e w' => e = .returned (.int .i64 3) ∧ w' = w := by
 have hp := h.pairs
 have HE := hide h
 have c0 := h.g0
 have T0 := hide (iis x0 x0 true w (.inl ⟨rfl, rfl⟩))
 clear h hp HE
 go_enter Tryz.func92, Tryz.ntmps92
 go_wp2_with fail
 refine (unhide T0).mono ?_
 rintro e w0 ⟨rfl, hw⟩
 subst hw
 go_wp2_with fail
 go_ret
 exact ⟨rfl, rfl⟩
set_option maxHeartbeats 1000000 in
set_option maxRecDepth 100000 in
theorem icode_1 {x0 x1 x2 x3 x4 : Addr} (w : World) (h : StE w x0 x1 x2 x3 x4) : Calls Tryz.prog 92 #[.iface 190 (.pointer (some x1))] w fun e w' => e = .returned (.int .i64 3) ∧ w' = w := by
 have hp := h.pairs
 have HE := hide h
 have c0 := h.g0
 have c1 := h.g1
 have T0 := hide (iis x1 x0 false w (.inr ⟨rfl, hp.1.1.symm, (unhide HE).b1, (unhide HE).b0⟩))
 have T1 := hide (iis x1 x1 true w (.inl ⟨rfl, rfl⟩))
 clear h hp HE
 go_enter Tryz.func92, Tryz.ntmps92
 go_wp2_with fail
 refine (unhide T0).mono ?_
 rintro e w0 ⟨rfl, hw⟩
 subst hw
 go_wp2_with fail
 refine (unhide T1).mono ?_
 rintro e w1 ⟨rfl, hw⟩
 subst hw
 go_wp2_with fail
 go_ret
 exact ⟨rfl, rfl⟩
set_option maxHeartbeats 1000000 in
set_option maxRecDepth 100000 in
theorem icode_2 {x0 x1 x2 x3 x4 : Addr} (w : World) (h : StE w x0 x1 x2 x3 x4) : Calls Tryz.prog 92 #[.iface 190 (.pointer (some x2))] w fun e w' => e = .returned (.int .i64 3) ∧ w' = w := by
 have hp := h.pairs
 have HE := hide h
 have c0 := h.g0
 have c1 := h.g1
 have c2 := h.g2
 have T0 := hide (iis x2 x0 false w (.inr ⟨rfl, hp.1.2.1.symm, (unhide HE).b2, (unhide HE).b0⟩))
 have T1 := hide (iis x2 x1 false w (.inr ⟨rfl, hp.2.1.1.symm, (unhide HE).b2, (unhide HE).b1⟩))
 have T2 := hide (iis x2 x2 true w (.inl ⟨rfl, rfl⟩))
 clear h hp HE
 go_enter Tryz.func92, Tryz.ntmps92
 go_wp2_with fail
 refine (unhide T0).mono ?_
 rintro e w0 ⟨rfl, hw⟩
 subst hw
 go_wp2_with fail
 refine (unhide T1).mono ?_
 rintro e w1 ⟨rfl, hw⟩
 subst hw
 go_wp2_with fail
 refine (unhide T2).mono ?_
 rintro e w2 ⟨rfl, hw⟩
 subst hw
 go_wp2_with fail
 go_ret
 exact ⟨rfl, rfl⟩
end Go.Proofs.YtjjdeejajbmecaaGreatDoor

/- Slices of bytes: a copy owns its memory and holds the same bytes; two rows are held against each other. -/
namespace Go.Proofs.YtjjdeejajbmecaaGreatDoor
open Go.ChangeShapes Go.WideShapes Go.ChangeAt Go.RowKit
def fill8 (l : List UInt8) (k : Nat) : List Value := B8 (l.take k) ++ List.replicate (l.length - k) (.int .u8 0)
end Go.Proofs.YtjjdeejajbmecaaGreatDoor

/- CRC-32: what both texts reckon at every row of at most 65536 bytes. -/
namespace Go.Proofs.YtjjdeejajbmecaaGreatDoor
open Go.ChangeShapes Go.WideShapes Go.ChangeAt Go.RowKit

def crcStep (x : Nat) : Nat := if x % 2 = 1 then (x / 2) ^^^ 3988292384 else x / 2
def crcN : Nat → Nat → Nat
 | 0, x => x
 | k + 1, x => crcStep (crcN k x)
def crcL (l : List UInt8) : Nat := l.foldl (fun r c => crcN 8 (r ^^^ c.toNat)) 4294967295
def chk (l : List UInt8) : Int := ((crcL l ^^^ 4294967295 : Nat) : Int)
theorem crcStep_lt (x : Nat) (h : x < 4294967296) : crcStep x < 4294967296 := by
 unfold crcStep
 split
 ·have : (x / 2) ^^^ 3988292384 < 2 ^ 32 := Nat.xor_lt_two_pow (by omega) (by omega)
  omega
 ·omega
theorem crcN_lt (k x : Nat) (h : x < 4294967296) : crcN k x < 4294967296 := by
 induction k with
 | zero => exact h
 | succ k ih => exact crcStep_lt _ ih
theorem xor_lt (x : Nat) (c : UInt8) (h : x < 4294967296) : x ^^^ c.toNat < 4294967296 := by
 have := c.toNat_lt
 have : x ^^^ c.toNat < 2 ^ 32 := Nat.xor_lt_two_pow (by omega) (by omega)
 omega
theorem crc_snoc (l : List UInt8) (k : Nat) (h : k < l.length) : crcL (l.take (k + 1)) = crcN 8 (crcL (l.take k) ^^^ l[k].toNat) := by
 unfold crcL
 rw [List.take_succ_eq_append_getElem h, List.foldl_append]
 rfl
theorem crcL_lt (l : List UInt8) : ∀ k, crcL (l.take k) < 4294967296 := by
 intro k
 induction k with
 | zero => simp [crcL]
 | succ k ih =>
  by_cases h : k < l.length
  ·rw [crc_snoc l k h]; exact crcN_lt 8 _ (xor_lt _ _ ih)
  ·rw [List.take_of_length_le (by omega)]; rw [List.take_of_length_le (by omega)] at ih; exact ih
theorem i64_xor_nat (a b : Nat) (ha : a < 4294967296) (hb : b < 4294967296) : bits .xor .i64 (a : Int) (b : Int) = ((a ^^^ b : Nat) : Int) := by
 have hx : a ^^^ b < 2 ^ 32 := Nat.xor_lt_two_pow (by omega) (by omega)
 show IntKind.i64.wrap ((BitVec.ofInt 64 (a : Int) ^^^ BitVec.ofInt 64 (b : Int)).toNat : Int) = _
 rw [BitVec.toNat_xor, ofInt_u64 a (by omega), ofInt_u64 b (by omega), IntKind.wrap_i64]
 omega
theorem odd_u32 (x : Nat) (h : x < 4294967296) : bits .and .u32 (x : Int) 1 = ((x % 2 : Nat) : Int) := by
 have := u32_and_nat x 1 h (by decide)
 rw [Nat.and_one_is_mod] at this
 simpa using this
theorem step_odd (x : Nat) (h : x % 2 = 1) : crcStep x = (x / 2) ^^^ 3988292384 := by unfold crcStep; rw [if_pos h]
theorem step_even (x : Nat) (h : ¬ x % 2 = 1) : crcStep x = x / 2 := by unfold crcStep; rw [if_neg h]

theorem fin_u32 (y : Nat) (h : y < 4294967296) : wrap64 (bits BinOp.xor IntKind.u32 IntKind.u32.max (y : Int)) = ((y ^^^ 4294967295 : Nat) : Int) := by
 have e : IntKind.u32.max = ((4294967295 : Nat) : Int) := by simp [IntKind.max, IntKind.signed, IntKind.bits]
 have hx : y ^^^ 4294967295 < 2 ^ 32 := Nat.xor_lt_two_pow (by omega) (by omega)
 rw [e, u32_xor_nat 4294967295 y (by omega) h, Nat.xor_comm]
 generalize y ^^^ 4294967295 = z at *
 unfold wrap64; omega

set_option maxHeartbeats 400000 in
set_option maxRecDepth 100000 in
theorem shift17 (x : Nat) (hx : x < 4294967296) (w : World) :
  Calls Tryz.prog 121 #[.int .u32 (x : Int)] w fun e w' => e = .returned (.int .u32 ((crcN 8 x : Nat) : Int)) ∧ w' = w := by
 have HX := hide hx
 go_enter Tryz.func121, Tryz.ntmps121
 go_wp2_with fail
 go_loop [0, 4] (fun r i => ∃ k y : Nat, k ≤ 8 ∧ i = .int .i64 k ∧ r = .int .u32 (y : Int) ∧ Hid (y = crcN k x)) (fun _ i => 8 - (intOf i).toNat)
 case atStart => exact ⟨0, x, by omega, rfl, rfl, rfl⟩
 case round =>
  obtain ⟨k, y, hk, rfl, rfl, HY⟩ := hrel
  have hy : y < 4294967296 := by have := crcN_lt k x (unhide HX); rw [← unhide HY] at this; exact this
  by_cases hlt : k < 8
  ·by_cases ho : y % 2 = 1
   ·have h1 : bits BinOp.and IntKind.u32 (y : Int) 1 = 1 := by rw [odd_u32 y hy, ho]; rfl
    have h2 : bits BinOp.xor IntKind.u32 ((y : Int) / 2) 3988292384 = ((crcStep y : Nat) : Int) := by
     have := u32_xor_nat (y / 2) 3988292384 (by omega) (by decide)
     rw [step_odd y ho, ← this]; simp
    clear ho hy hx
    go_wp2_with fail
    go_round
    case rel => exact ⟨k + 1, crcStep y, by omega, by go_num, rfl, by rw [unhide HY]; rfl⟩
    case measure => simp [intOf]; omega
   ·have h1 : bits BinOp.and IntKind.u32 (y : Int) 1 = 0 := by rw [odd_u32 y hy, show y % 2 = 0 from by omega]; rfl
    have HE := hide (step_even y ho)
    clear ho hy hx
    go_wp2_with fail
    go_round
    case rel => exact ⟨k + 1, y / 2, by omega, by go_num, by go_num, by show y / 2 = crcStep (crcN k x); rw [← unhide HE, unhide HY]⟩
    case measure => simp [intOf]; omega
  ·have ek : k = 8 := by omega
   have HV : Hid (((crcN 8 x : Nat) : Int) = (y : Int)) := by rw [unhide HY, ek]; rfl
   clear hy hx ek
   go_wp2_with fail
   go_ret
   rw [unhide HV]
   exact ⟨rfl, rfl⟩

set_option maxHeartbeats 800000 in
set_option maxRecDepth 100000 in
theorem check10 (a : Option Addr) (cap : Nat) (l : List UInt8) (hl : l.length ≤ 65536) (w : World) (hr : Row8 w a l) :
  Calls Tryz.prog 116 #[.slice a l.length cap] w fun e w' => e = .returned (.int .i64 (chk l)) ∧ w' = w := by
 have HR := hide hr
 clear hr
 go_enter Tryz.func116, Tryz.ntmps116
 go_wp2_with fail
 go_loop [3, 11] (fun r i => ∃ k y : Nat, k ≤ l.length ∧ i = .int .i64 k ∧ r = .int .u32 (y : Int) ∧ Hid (y = crcL (l.take k))) (fun _ i => l.length - (intOf i).toNat)
 case atStart => exact ⟨0, 4294967295, by omega, rfl, rfl, rfl⟩
 case round =>
  obtain ⟨k, y, hk, rfl, rfl, HY⟩ := hrel
  have hy : y < 4294967296 := by have := crcL_lt l k; rw [← unhide HY] at this; exact this
  by_cases hlt : k < l.length
  ·obtain ⟨b, off, ha, hblt, hc⟩ := (unhide HR).at (by omega)
   subst ha
   have hc1 := hc k hlt
   have hlt' : (k : Int) < (l.length : Int) := by omega
   have hcv := l[k].toNat_lt
   have h2 : bits BinOp.xor IntKind.u32 (y : Int) (l[k].toNat : Int) = ((y ^^^ l[k].toNat : Nat) : Int) := u32_xor_nat y l[k].toNat hy (by omega)
   have HZ := hide (xor_lt y l[k] hy)
   have c0 : (l[k].toNat : Int) ≤ 255 := by omega
   clear hc HR hy hblt hcv
   go_wp2_with (go_at_call 121; refine (shift17 _ (unhide HZ) _).mono ?_; rintro e w' ⟨rfl, hw⟩; subst w')
   go_round
   case rel => exact ⟨k + 1, crcN 8 (y ^^^ l[k].toNat), by omega, by go_num, rfl, by show _ = _; rw [crc_snoc l k hlt, unhide HY]⟩
   case measure => simp [intOf]; omega
  ·have HV : Hid (wrap64 (bits BinOp.xor IntKind.u32 IntKind.u32.max (y : Int)) = chk l) := by
    show _ = _
    rw [fin_u32 y hy, unhide HY, List.take_of_length_le (by omega)]; rfl
   clear hy
   go_wp2_with fail
   go_ret
   exact ⟨ret_int (unhide HV), rfl⟩

set_option maxHeartbeats 800000 in
set_option maxRecDepth 100000 in
theorem check16 (a : Option Addr) (cap : Nat) (l : List UInt8) (hl : l.length ≤ 65536) (w : World) (hr : Row8 w a l) :
  Calls Tryz.prog 57 #[.slice a l.length cap] w fun e w' => e = .returned (.int .i64 (chk l)) ∧ w' = w := by
 have HR := hide hr
 clear hr
 go_enter Tryz.func57, Tryz.ntmps57
 go_wp2_with fail
 go_loop [3, 4] (fun r i => ∃ k y : Nat, k ≤ l.length ∧ i = .int .i64 k ∧ r = .int .i64 (y : Int) ∧ Hid (y = crcL (l.take k))) (fun _ i => l.length - (intOf i).toNat)
 case atStart => exact ⟨0, 4294967295, by omega, rfl, rfl, rfl⟩
 case round =>
  obtain ⟨k, y, hk, rfl, rfl, HY⟩ := hrel
  have hy : y < 4294967296 := by have := crcL_lt l k; rw [← unhide HY] at this; exact this
  by_cases hlt : k < l.length
  ·obtain ⟨b, off, ha, hblt, hc⟩ := (unhide HR).at (by omega)
   subst ha
   have hc1 := hc k hlt
   have hlt' : (k : Int) < (l.length : Int) := by omega
   have hcv := l[k].toNat_lt
   have h2 : bits BinOp.xor IntKind.i64 (y : Int) (l[k].toNat : Int) = ((y ^^^ l[k].toNat : Nat) : Int) := i64_xor_nat y l[k].toNat hy (by omega)
   have HZ := hide (xor_lt y l[k] hy)
   have c0 : (l[k].toNat : Int) ≤ 255 := by omega
   clear hc HR hy hblt hcv
   go_wp2_with fail
   go_loop [3, 5] (fun r i => ∃ m z : Nat, m ≤ 8 ∧ i = .int .i64 m ∧ r = .int .i64 (z : Int) ∧ Hid (z = crcN m (y ^^^ l[k].toNat))) (fun _ i => 8 - (intOf i).toNat)
   case atStart => exact ⟨0, y ^^^ l[k].toNat, by omega, rfl, rfl, rfl⟩
   case round =>
    obtain ⟨m, z, hm, rfl, rfl, HM⟩ := hrel
    have hz : z < 4294967296 := by have := crcN_lt m _ (unhide HZ); rw [← unhide HM] at this; exact this
    have hz0 : (0 : Int) ≤ (z : Int) := by omega
    have hw64 : wrap64 ((z : Int) / 2) = (z : Int) / 2 := by unfold wrap64; omega
    clear h2
    by_cases hlm : m < 8
    ·by_cases ho : z % 2 = 1
     ·have h1 : (z : Int).tmod 2 = 1 := by rw [Int.tmod_eq_emod_of_nonneg hz0]; omega
      have h2 : bits BinOp.xor IntKind.i64 ((z : Int) / 2) 3988292384 = ((crcStep z : Nat) : Int) := by
       have := i64_xor_nat (z / 2) 3988292384 (by omega) (by decide)
       rw [step_odd z ho, ← this]; simp
      clear ho hz
      go_wp2_with fail
      go_round
      case rel => exact ⟨m + 1, crcStep z, by omega, by go_num, rfl, by show _ = _; rw [unhide HM]; rfl⟩
      case measure => simp [intOf]; omega
     ·have h1 : (z : Int).tmod 2 = 0 := by rw [Int.tmod_eq_emod_of_nonneg hz0]; omega
      have HE := hide (step_even z ho)
      clear ho hz
      go_wp2_with fail
      go_round
      case rel => exact ⟨m + 1, z / 2, by omega, by go_num, by go_num, by show z / 2 = crcStep (crcN m _); rw [← unhide HE, unhide HM]⟩
      case measure => simp [intOf]; omega
    ·have em : m = 8 := by omega
     have HV : Hid (z = crcL (l.take (k + 1))) := by show _ = _; rw [crc_snoc l k hlt, ← unhide HY, unhide HM, em]
     clear hz em
     go_wp2_with fail
     go_round
     case rel => exact ⟨k + 1, z, by omega, by go_num, rfl, HV⟩
     case measure => simp [intOf]; omega
  ·have h2 : bits BinOp.xor IntKind.i64 (y : Int) 4294967295 = chk l := by
    have := i64_xor_nat y 4294967295 hy (by omega)
    rw [show ((4294967295 : Nat) : Int) = 4294967295 from rfl] at this
    rw [this, unhide HY, List.take_of_length_le (by omega)]; rfl
   clear hy
   go_wp2_with fail
   go_ret
   exact ⟨rfl, rfl⟩

def chkA (l : List UInt8) : Int := if 65536 < l.length then 0 else chk l
theorem chkA_long {l : List UInt8} (h : 65536 < l.length) : chkA l = 0 := by unfold chkA; rw [if_pos h]
theorem chkA_ok {l : List UInt8} (h : ¬ 65536 < l.length) : chkA l = chk l := by unfold chkA; rw [if_neg h]
theorem icheck (a : Option Addr) (cap : Nat) (l : List UInt8) (hl : l.length ≤ 1048576) (w : World) (hr : Row8 w a l) :
  Calls Tryz.prog 116 #[.slice a l.length cap] w fun e w' => e = .returned (.int .i64 (chkA l)) ∧ w' = w := by
 by_cases h : 65536 < l.length
 ·have HV := hide (chkA_long h)
  clear hr
  go_enter Tryz.func116, Tryz.ntmps116
  go_wp2_with fail
  go_ret
  rw [unhide HV]
  exact ⟨rfl, rfl⟩
 ·rw [chkA_ok h]; exact check10 a cap l (by omega) w hr
end Go.Proofs.YtjjdeejajbmecaaGreatDoor
