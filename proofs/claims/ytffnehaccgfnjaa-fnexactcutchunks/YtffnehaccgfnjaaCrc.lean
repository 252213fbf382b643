/- CRC-32: what both texts reckon at every row of at most 65536 bytes. -/
import Derived.Test.YtffnehaccgfnjaaByteS
import Derived.Laws.BitsAllLaws
import Derived.Laws.BitsLemmas
namespace Go.Proofs.Ytffnehaccgfnjaa
open Go.ChangeShapes Go.WideShapes Go.ChangeAt Go.RowKit

def crcStep (x : Nat) : Nat := if x % 2 = 1 then (x / 2) ^^^ 3988292384 else x / 2
def crcN : Nat → Nat → Nat
  | 0, x => x
  | k + 1, x => crcStep (crcN k x)
def crcL (l : List UInt8) : Nat := l.foldl (fun r c => crcN 8 (r ^^^ c.toNat)) 4294967295
def chk (l : List UInt8) : Int := ((crcL l ^^^ 4294967295 : Nat) : Int)
theorem crcStep_lt (x : Nat) (h : x < 4294967296) : crcStep x < 4294967296 := by
  unfold crcStep
  split
  · have : (x / 2) ^^^ 3988292384 < 2 ^ 32 := Nat.xor_lt_two_pow (by omega) (by omega)
    omega
  · omega
theorem crcN_lt (k x : Nat) (h : x < 4294967296) : crcN k x < 4294967296 := by
  induction k with
  | zero => exact h
  | succ k ih => exact crcStep_lt _ ih
theorem xor_lt (x : Nat) (c : UInt8) (h : x < 4294967296) : x ^^^ c.toNat < 4294967296 := by
  have := c.toNat_lt
  have : x ^^^ c.toNat < 2 ^ 32 := Nat.xor_lt_two_pow (by omega) (by omega)
  omega
theorem crc_snoc (l : List UInt8) (k : Nat) (h : k < l.length) : crcL (l.take (k + 1)) = crcN 8 (crcL (l.take k) ^^^ l[k].toNat) := by
  unfold crcL
  rw [List.take_succ_eq_append_getElem h, List.foldl_append]
  rfl
theorem crcL_lt (l : List UInt8) : ∀ k, crcL (l.take k) < 4294967296 := by
  intro k
  induction k with
  | zero => simp [crcL]
  | succ k ih =>
    by_cases h : k < l.length
    · rw [crc_snoc l k h]; exact crcN_lt 8 _ (xor_lt _ _ ih)
    · rw [List.take_of_length_le (by omega)]; rw [List.take_of_length_le (by omega)] at ih; exact ih
theorem i64_xor_nat (a b : Nat) (ha : a < 4294967296) (hb : b < 4294967296) : bits .xor .i64 (a : Int) (b : Int) = ((a ^^^ b : Nat) : Int) := by
  have hx : a ^^^ b < 2 ^ 32 := Nat.xor_lt_two_pow (by omega) (by omega)
  show IntKind.i64.wrap ((BitVec.ofInt 64 (a : Int) ^^^ BitVec.ofInt 64 (b : Int)).toNat : Int) = _
  rw [BitVec.toNat_xor, ofInt_u64 a (by omega), ofInt_u64 b (by omega), IntKind.wrap_i64]
  omega
theorem odd_u32 (x : Nat) (h : x < 4294967296) : bits .and .u32 (x : Int) 1 = ((x % 2 : Nat) : Int) := by
  have := u32_and_nat x 1 h (by decide)
  rw [Nat.and_one_is_mod] at this
  simpa using this
theorem step_odd (x : Nat) (h : x % 2 = 1) : crcStep x = (x / 2) ^^^ 3988292384 := by unfold crcStep; rw [if_pos h]
theorem step_even (x : Nat) (h : ¬ x % 2 = 1) : crcStep x = x / 2 := by unfold crcStep; rw [if_neg h]

theorem fin_u32 (y : Nat) (h : y < 4294967296) : wrap64 (bits BinOp.xor IntKind.u32 IntKind.u32.max (y : Int)) = ((y ^^^ 4294967295 : Nat) : Int) := by
  have e : IntKind.u32.max = ((4294967295 : Nat) : Int) := by simp [IntKind.max, IntKind.signed, IntKind.bits]
  have hx : y ^^^ 4294967295 < 2 ^ 32 := Nat.xor_lt_two_pow (by omega) (by omega)
  rw [e, u32_xor_nat 4294967295 y (by omega) h, Nat.xor_comm]
  generalize y ^^^ 4294967295 = z at *
  unfold wrap64; omega

set_option maxHeartbeats 400000 in
set_option maxRecDepth 100000 in
theorem shift17 (x : Nat) (hx : x < 4294967296) (w : World) :
    Calls Try.prog 25 #[.int .u32 (x : Int)] w fun e w' => e = .returned (.int .u32 ((crcN 8 x : Nat) : Int)) ∧ w' = w := by
  have HX := hide hx
  go_enter Try.func25, Try.ntmps25
  go_wp2_with fail
  go_loop [0, 4] (fun r i => ∃ k y : Nat, k ≤ 8 ∧ i = .int .i64 k ∧ r = .int .u32 (y : Int) ∧ Hid (y = crcN k x)) (fun _ i => 8 - (intOf i).toNat)
  case atStart => exact ⟨0, x, by omega, rfl, rfl, rfl⟩
  case round =>
    obtain ⟨k, y, hk, rfl, rfl, HY⟩ := hrel
    have hy : y < 4294967296 := by have := crcN_lt k x (unhide HX); rw [← unhide HY] at this; exact this
    by_cases hlt : k < 8
    · by_cases ho : y % 2 = 1
      · have h1 : bits BinOp.and IntKind.u32 (y : Int) 1 = 1 := by rw [odd_u32 y hy, ho]; rfl
        have h2 : bits BinOp.xor IntKind.u32 ((y : Int) / 2) 3988292384 = ((crcStep y : Nat) : Int) := by
          have := u32_xor_nat (y / 2) 3988292384 (by omega) (by decide)
          rw [step_odd y ho, ← this]; simp
        clear ho hy hx
        go_wp2_with fail
        go_round
        case rel => exact ⟨k + 1, crcStep y, by omega, by go_num, rfl, by rw [unhide HY]; rfl⟩
        case measure => simp [intOf]; omega
      · have h1 : bits BinOp.and IntKind.u32 (y : Int) 1 = 0 := by rw [odd_u32 y hy, show y % 2 = 0 from by omega]; rfl
        have HE := hide (step_even y ho)
        clear ho hy hx
        go_wp2_with fail
        go_round
        case rel => exact ⟨k + 1, y / 2, by omega, by go_num, by go_num, by show y / 2 = crcStep (crcN k x); rw [← unhide HE, unhide HY]⟩
        case measure => simp [intOf]; omega
    · have ek : k = 8 := by omega
      have HV : Hid (((crcN 8 x : Nat) : Int) = (y : Int)) := by rw [unhide HY, ek]; rfl
      clear hy hx ek
      go_wp2_with fail
      go_ret
      rw [unhide HV]
      exact ⟨rfl, rfl⟩

set_option maxHeartbeats 800000 in
set_option maxRecDepth 100000 in
theorem check10 (a : Option Addr) (cap : Nat) (l : List UInt8) (hl : l.length ≤ 65536) (w : World) (hr : Row8 w a l) :
    Calls Try.prog 23 #[.slice a l.length cap] w fun e w' => e = .returned (.int .i64 (chk l)) ∧ w' = w := by
  have HR := hide hr
  clear hr
  go_enter Try.func23, Try.ntmps23
  go_wp2_with fail
  go_loop [3, 11] (fun r i => ∃ k y : Nat, k ≤ l.length ∧ i = .int .i64 k ∧ r = .int .u32 (y : Int) ∧ Hid (y = crcL (l.take k))) (fun _ i => l.length - (intOf i).toNat)
  case atStart => exact ⟨0, 4294967295, by omega, rfl, rfl, rfl⟩
  case round =>
    obtain ⟨k, y, hk, rfl, rfl, HY⟩ := hrel
    have hy : y < 4294967296 := by have := crcL_lt l k; rw [← unhide HY] at this; exact this
    by_cases hlt : k < l.length
    · obtain ⟨b, off, ha, hblt, hc⟩ := (unhide HR).at (by omega)
      subst ha
      have hc1 := hc k hlt
      have hlt' : (k : Int) < (l.length : Int) := by omega
      have hcv := l[k].toNat_lt
      have h2 : bits BinOp.xor IntKind.u32 (y : Int) (l[k].toNat : Int) = ((y ^^^ l[k].toNat : Nat) : Int) := u32_xor_nat y l[k].toNat hy (by omega)
      have HZ := hide (xor_lt y l[k] hy)
      have c0 : (l[k].toNat : Int) ≤ 255 := by omega
      clear hc HR hy hblt hcv
      go_wp2_with (go_at_call 25; refine (shift17 _ (unhide HZ) _).mono ?_; rintro e w' ⟨rfl, hw⟩; subst w')
      go_round
      case rel => exact ⟨k + 1, crcN 8 (y ^^^ l[k].toNat), by omega, by go_num, rfl, by show _ = _; rw [crc_snoc l k hlt, unhide HY]⟩
      case measure => simp [intOf]; omega
    · have HV : Hid (wrap64 (bits BinOp.xor IntKind.u32 IntKind.u32.max (y : Int)) = chk l) := by
        show _ = _
        rw [fin_u32 y hy, unhide HY, List.take_of_length_le (by omega)]; rfl
      clear hy
      go_wp2_with fail
      go_ret
      exact ⟨ret_int (unhide HV), rfl⟩

set_option maxHeartbeats 800000 in
set_option maxRecDepth 100000 in
theorem check16 (a : Option Addr) (cap : Nat) (l : List UInt8) (hl : l.length ≤ 65536) (w : World) (hr : Row8 w a l) :
    Calls Try.prog 19 #[.slice a l.length cap] w fun e w' => e = .returned (.int .i64 (chk l)) ∧ w' = w := by
  have HR := hide hr
  clear hr
  go_enter Try.func19, Try.ntmps19
  go_wp2_with fail
  go_loop [3, 4] (fun r i => ∃ k y : Nat, k ≤ l.length ∧ i = .int .i64 k ∧ r = .int .i64 (y : Int) ∧ Hid (y = crcL (l.take k))) (fun _ i => l.length - (intOf i).toNat)
  case atStart => exact ⟨0, 4294967295, by omega, rfl, rfl, rfl⟩
  case round =>
    obtain ⟨k, y, hk, rfl, rfl, HY⟩ := hrel
    have hy : y < 4294967296 := by have := crcL_lt l k; rw [← unhide HY] at this; exact this
    by_cases hlt : k < l.length
    · obtain ⟨b, off, ha, hblt, hc⟩ := (unhide HR).at (by omega)
      subst ha
      have hc1 := hc k hlt
      have hlt' : (k : Int) < (l.length : Int) := by omega
      have hcv := l[k].toNat_lt
      have h2 : bits BinOp.xor IntKind.i64 (y : Int) (l[k].toNat : Int) = ((y ^^^ l[k].toNat : Nat) : Int) := i64_xor_nat y l[k].toNat hy (by omega)
      have HZ := hide (xor_lt y l[k] hy)
      have c0 : (l[k].toNat : Int) ≤ 255 := by omega
      clear hc HR hy hblt hcv
      go_wp2_with fail
      go_loop [3, 5] (fun r i => ∃ m z : Nat, m ≤ 8 ∧ i = .int .i64 m ∧ r = .int .i64 (z : Int) ∧ Hid (z = crcN m (y ^^^ l[k].toNat))) (fun _ i => 8 - (intOf i).toNat)
      case atStart => exact ⟨0, y ^^^ l[k].toNat, by omega, rfl, rfl, rfl⟩
      case round =>
        obtain ⟨m, z, hm, rfl, rfl, HM⟩ := hrel
        have hz : z < 4294967296 := by have := crcN_lt m _ (unhide HZ); rw [← unhide HM] at this; exact this
        have hz0 : (0 : Int) ≤ (z : Int) := by omega
        have hw64 : wrap64 ((z : Int) / 2) = (z : Int) / 2 := by unfold wrap64; omega
        clear h2
        by_cases hlm : m < 8
        · by_cases ho : z % 2 = 1
          · have h1 : (z : Int).tmod 2 = 1 := by rw [Int.tmod_eq_emod_of_nonneg hz0]; omega
            have h2 : bits BinOp.xor IntKind.i64 ((z : Int) / 2) 3988292384 = ((crcStep z : Nat) : Int) := by
              have := i64_xor_nat (z / 2) 3988292384 (by omega) (by decide)
              rw [step_odd z ho, ← this]; simp
            clear ho hz
            go_wp2_with fail
            go_round
            case rel => exact ⟨m + 1, crcStep z, by omega, by go_num, rfl, by show _ = _; rw [unhide HM]; rfl⟩
            case measure => simp [intOf]; omega
          · have h1 : (z : Int).tmod 2 = 0 := by rw [Int.tmod_eq_emod_of_nonneg hz0]; omega
            have HE := hide (step_even z ho)
            clear ho hz
            go_wp2_with fail
            go_round
            case rel => exact ⟨m + 1, z / 2, by omega, by go_num, by go_num, by show z / 2 = crcStep (crcN m _); rw [← unhide HE, unhide HM]⟩
            case measure => simp [intOf]; omega
        · have em : m = 8 := by omega
          have HV : Hid (z = crcL (l.take (k + 1))) := by show _ = _; rw [crc_snoc l k hlt, ← unhide HY, unhide HM, em]
          clear hz em
          go_wp2_with fail
          go_round
          case rel => exact ⟨k + 1, z, by omega, by go_num, rfl, HV⟩
          case measure => simp [intOf]; omega
    · have h2 : bits BinOp.xor IntKind.i64 (y : Int) 4294967295 = chk l := by
        have := i64_xor_nat y 4294967295 hy (by omega)
        rw [show ((4294967295 : Nat) : Int) = 4294967295 from rfl] at this
        rw [this, unhide HY, List.take_of_length_le (by omega)]; rfl
      clear hy
      go_wp2_with fail
      go_ret
      exact ⟨rfl, rfl⟩

def chkA (l : List UInt8) : Int := if 65536 < l.length then 0 else chk l
theorem chkA_long {l : List UInt8} (h : 65536 < l.length) : chkA l = 0 := by unfold chkA; rw [if_pos h]
theorem chkA_ok {l : List UInt8} (h : ¬ 65536 < l.length) : chkA l = chk l := by unfold chkA; rw [if_neg h]
theorem icheck (a : Option Addr) (cap : Nat) (l : List UInt8) (hl : l.length ≤ 1048576) (w : World) (hr : Row8 w a l) :
    Calls Try.prog 23 #[.slice a l.length cap] w fun e w' => e = .returned (.int .i64 (chkA l)) ∧ w' = w := by
  by_cases h : 65536 < l.length
  · have HV := hide (chkA_long h)
    clear hr
    go_enter Try.func23, Try.ntmps23
    go_wp2_with fail
    go_ret
    rw [unhide HV]
    exact ⟨rfl, rfl⟩
  · rw [chkA_ok h]; exact check10 a cap l (by omega) w hr
end Go.Proofs.Ytffnehaccgfnjaa
