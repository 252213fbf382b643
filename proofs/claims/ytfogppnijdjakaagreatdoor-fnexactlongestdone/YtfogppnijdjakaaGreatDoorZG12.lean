/- Texts put together: Crc FrmM NumS FrmU. -/
import Derived.Test.YtfogppnijdjakaaGreatDoorZG11
import Derived.Laws.BitsAllLaws
import Derived.Laws.BitsLemmas
import Derived.Test.YtfogppnijdjakaaGreatDoorZG9
import Derived.Test.YtfogppnijdjakaaGreatDoorZG2
import Derived.Lib.ConvBytes
/- CRC-32: what both texts reckon at every row of at most 65536 bytes. -/
namespace Go.Proofs.YtfogppnijdjakaaGreatDoor
open Go.ChangeShapes Go.WideShapes Go.ChangeAt Go.RowKit

def crcStep (x : Nat) : Nat := if x % 2 = 1 then (x / 2) ^^^ 3988292384 else x / 2
def crcN : Nat → Nat → Nat
 | 0, x => x
 | k + 1, x => crcStep (crcN k x)
def crcL (l : List UInt8) : Nat := l.foldl (fun r c => crcN 8 (r ^^^ c.toNat)) 4294967295
def chk (l : List UInt8) : Int := ((crcL l ^^^ 4294967295 : Nat) : Int)
theorem crcStep_lt (x : Nat) (h : x < 4294967296) : crcStep x < 4294967296 := by
 unfold crcStep
 split
 ·have : (x / 2) ^^^ 3988292384 < 2 ^ 32 := Nat.xor_lt_two_pow (by omega) (by omega)
  omega
 ·omega
theorem crcN_lt (k x : Nat) (h : x < 4294967296) : crcN k x < 4294967296 := by
 induction k with
 | zero => exact h
 | succ k ih => exact crcStep_lt _ ih
theorem xor_lt (x : Nat) (c : UInt8) (h : x < 4294967296) : x ^^^ c.toNat < 4294967296 := by
 have := c.toNat_lt
 have : x ^^^ c.toNat < 2 ^ 32 := Nat.xor_lt_two_pow (by omega) (by omega)
 omega
theorem crc_snoc (l : List UInt8) (k : Nat) (h : k < l.length) : crcL (l.take (k + 1)) = crcN 8 (crcL (l.take k) ^^^ l[k].toNat) := by
 unfold crcL
 rw [List.take_succ_eq_append_getElem h, List.foldl_append]
 rfl
theorem crcL_lt (l : List UInt8) : ∀ k, crcL (l.take k) < 4294967296 := by
 intro k
 induction k with
 | zero => simp [crcL]
 | succ k ih =>
  by_cases h : k < l.length
  ·rw [crc_snoc l k h]; exact crcN_lt 8 _ (xor_lt _ _ ih)
  ·rw [List.take_of_length_le (by omega)]; rw [List.take_of_length_le (by omega)] at ih; exact ih
theorem i64_xor_nat (a b : Nat) (ha : a < 4294967296) (hb : b < 4294967296) : bits .xor .i64 (a : Int) (b : Int) = ((a ^^^ b : Nat) : Int) := by
 have hx : a ^^^ b < 2 ^ 32 := Nat.xor_lt_two_pow (by omega) (by omega)
 show IntKind.i64.wrap ((BitVec.ofInt 64 (a : Int) ^^^ BitVec.ofInt 64 (b : Int)).toNat : Int) = _
 rw [BitVec.toNat_xor, ofInt_u64 a (by omega), ofInt_u64 b (by omega), IntKind.wrap_i64]
 omega
theorem odd_u32 (x : Nat) (h : x < 4294967296) : bits .and .u32 (x : Int) 1 = ((x % 2 : Nat) : Int) := by
 have := u32_and_nat x 1 h (by decide)
 rw [Nat.and_one_is_mod] at this
 simpa using this
theorem step_odd (x : Nat) (h : x % 2 = 1) : crcStep x = (x / 2) ^^^ 3988292384 := by unfold crcStep; rw [if_pos h]
theorem step_even (x : Nat) (h : ¬ x % 2 = 1) : crcStep x = x / 2 := by unfold crcStep; rw [if_neg h]

theorem fin_u32 (y : Nat) (h : y < 4294967296) : wrap64 (bits BinOp.xor IntKind.u32 IntKind.u32.max (y : Int)) = ((y ^^^ 4294967295 : Nat) : Int) := by
 have e : IntKind.u32.max = ((4294967295 : Nat) : Int) := by simp [IntKind.max, IntKind.signed, IntKind.bits]
 have hx : y ^^^ 4294967295 < 2 ^ 32 := Nat.xor_lt_two_pow (by omega) (by omega)
 rw [e, u32_xor_nat 4294967295 y (by omega) h, Nat.xor_comm]
 generalize y ^^^ 4294967295 = z at *
 unfold wrap64; omega

set_option maxHeartbeats 400000 in
set_option maxRecDepth 100000 in
theorem shift17 (x : Nat) (hx : x < 4294967296) (w : World) :
  Calls Tryz.prog 126 #[.int .u32 (x : Int)] w fun e w' => e = .returned (.int .u32 ((crcN 8 x : Nat) : Int)) ∧ w' = w := by
 have HX := hide hx
 go_enter Tryz.func126, Tryz.ntmps126
 go_wp2_with fail
 go_loop [0, 4] (fun r i => ∃ k y : Nat, k ≤ 8 ∧ i = .int .i64 k ∧ r = .int .u32 (y : Int) ∧ Hid (y = crcN k x)) (fun _ i => 8 - (intOf i).toNat)
 case atStart => exact ⟨0, x, by omega, rfl, rfl, rfl⟩
 case round =>
  obtain ⟨k, y, hk, rfl, rfl, HY⟩ := hrel
  have hy : y < 4294967296 := by have := crcN_lt k x (unhide HX); rw [← unhide HY] at this; exact this
  by_cases hlt : k < 8
  ·by_cases ho : y % 2 = 1
   ·have h1 : bits BinOp.and IntKind.u32 (y : Int) 1 = 1 := by rw [odd_u32 y hy, ho]; rfl
    have h2 : bits BinOp.xor IntKind.u32 ((y : Int) / 2) 3988292384 = ((crcStep y : Nat) : Int) := by
     have := u32_xor_nat (y / 2) 3988292384 (by omega) (by decide)
     rw [step_odd y ho, ← this]; simp
    clear ho hy hx
    go_wp2_with fail
    go_round
    case rel => exact ⟨k + 1, crcStep y, by omega, by go_num, rfl, by rw [unhide HY]; rfl⟩
    case measure => simp [intOf]; omega
   ·have h1 : bits BinOp.and IntKind.u32 (y : Int) 1 = 0 := by rw [odd_u32 y hy, show y % 2 = 0 from by omega]; rfl
    have HE := hide (step_even y ho)
    clear ho hy hx
    go_wp2_with fail
    go_round
    case rel => exact ⟨k + 1, y / 2, by omega, by go_num, by go_num, by show y / 2 = crcStep (crcN k x); rw [← unhide HE, unhide HY]⟩
    case measure => simp [intOf]; omega
  ·have ek : k = 8 := by omega
   have HV : Hid (((crcN 8 x : Nat) : Int) = (y : Int)) := by rw [unhide HY, ek]; rfl
   clear hy hx ek
   go_wp2_with fail
   go_ret
   rw [unhide HV]
   exact ⟨rfl, rfl⟩

set_option maxHeartbeats 800000 in
set_option maxRecDepth 100000 in
theorem check10 (a : Option Addr) (cap : Nat) (l : List UInt8) (hl : l.length ≤ 65536) (w : World) (hr : Row8 w a l) :
  Calls Tryz.prog 121 #[.slice a l.length cap] w fun e w' => e = .returned (.int .i64 (chk l)) ∧ w' = w := by
 have HR := hide hr
 clear hr
 go_enter Tryz.func121, Tryz.ntmps121
 go_wp2_with fail
 go_loop [3, 11] (fun r i => ∃ k y : Nat, k ≤ l.length ∧ i = .int .i64 k ∧ r = .int .u32 (y : Int) ∧ Hid (y = crcL (l.take k))) (fun _ i => l.length - (intOf i).toNat)
 case atStart => exact ⟨0, 4294967295, by omega, rfl, rfl, rfl⟩
 case round =>
  obtain ⟨k, y, hk, rfl, rfl, HY⟩ := hrel
  have hy : y < 4294967296 := by have := crcL_lt l k; rw [← unhide HY] at this; exact this
  by_cases hlt : k < l.length
  ·obtain ⟨b, off, ha, hblt, hc⟩ := (unhide HR).at (by omega)
   subst ha
   have hc1 := hc k hlt
   have hlt' : (k : Int) < (l.length : Int) := by omega
   have hcv := l[k].toNat_lt
   have h2 : bits BinOp.xor IntKind.u32 (y : Int) (l[k].toNat : Int) = ((y ^^^ l[k].toNat : Nat) : Int) := u32_xor_nat y l[k].toNat hy (by omega)
   have HZ := hide (xor_lt y l[k] hy)
   have c0 : (l[k].toNat : Int) ≤ 255 := by omega
   clear hc HR hy hblt hcv
   go_wp2_with (go_at_call 126; refine (shift17 _ (unhide HZ) _).mono ?_; rintro e w' ⟨rfl, hw⟩; subst w')
   go_round
   case rel => exact ⟨k + 1, crcN 8 (y ^^^ l[k].toNat), by omega, by go_num, rfl, by show _ = _; rw [crc_snoc l k hlt, unhide HY]⟩
   case measure => simp [intOf]; omega
  ·have HV : Hid (wrap64 (bits BinOp.xor IntKind.u32 IntKind.u32.max (y : Int)) = chk l) := by
    show _ = _
    rw [fin_u32 y hy, unhide HY, List.take_of_length_le (by omega)]; rfl
   clear hy
   go_wp2_with fail
   go_ret
   exact ⟨ret_int (unhide HV), rfl⟩

set_option maxHeartbeats 800000 in
set_option maxRecDepth 100000 in
theorem check16 (a : Option Addr) (cap : Nat) (l : List UInt8) (hl : l.length ≤ 65536) (w : World) (hr : Row8 w a l) :
  Calls Tryz.prog 77 #[.slice a l.length cap] w fun e w' => e = .returned (.int .i64 (chk l)) ∧ w' = w := by
 have HR := hide hr
 clear hr
 go_enter Tryz.func77, Tryz.ntmps77
 go_wp2_with fail
 go_loop [3, 4] (fun r i => ∃ k y : Nat, k ≤ l.length ∧ i = .int .i64 k ∧ r = .int .i64 (y : Int) ∧ Hid (y = crcL (l.take k))) (fun _ i => l.length - (intOf i).toNat)
 case atStart => exact ⟨0, 4294967295, by omega, rfl, rfl, rfl⟩
 case round =>
  obtain ⟨k, y, hk, rfl, rfl, HY⟩ := hrel
  have hy : y < 4294967296 := by have := crcL_lt l k; rw [← unhide HY] at this; exact this
  by_cases hlt : k < l.length
  ·obtain ⟨b, off, ha, hblt, hc⟩ := (unhide HR).at (by omega)
   subst ha
   have hc1 := hc k hlt
   have hlt' : (k : Int) < (l.length : Int) := by omega
   have hcv := l[k].toNat_lt
   have h2 : bits BinOp.xor IntKind.i64 (y : Int) (l[k].toNat : Int) = ((y ^^^ l[k].toNat : Nat) : Int) := i64_xor_nat y l[k].toNat hy (by omega)
   have HZ := hide (xor_lt y l[k] hy)
   have c0 : (l[k].toNat : Int) ≤ 255 := by omega
   clear hc HR hy hblt hcv
   go_wp2_with fail
   go_loop [3, 5] (fun r i => ∃ m z : Nat, m ≤ 8 ∧ i = .int .i64 m ∧ r = .int .i64 (z : Int) ∧ Hid (z = crcN m (y ^^^ l[k].toNat))) (fun _ i => 8 - (intOf i).toNat)
   case atStart => exact ⟨0, y ^^^ l[k].toNat, by omega, rfl, rfl, rfl⟩
   case round =>
    obtain ⟨m, z, hm, rfl, rfl, HM⟩ := hrel
    have hz : z < 4294967296 := by have := crcN_lt m _ (unhide HZ); rw [← unhide HM] at this; exact this
    have hz0 : (0 : Int) ≤ (z : Int) := by omega
    have hw64 : wrap64 ((z : Int) / 2) = (z : Int) / 2 := by unfold wrap64; omega
    clear h2
    by_cases hlm : m < 8
    ·by_cases ho : z % 2 = 1
     ·have h1 : (z : Int).tmod 2 = 1 := by rw [Int.tmod_eq_emod_of_nonneg hz0]; omega
      have h2 : bits BinOp.xor IntKind.i64 ((z : Int) / 2) 3988292384 = ((crcStep z : Nat) : Int) := by
       have := i64_xor_nat (z / 2) 3988292384 (by omega) (by decide)
       rw [step_odd z ho, ← this]; simp
      clear ho hz
      go_wp2_with fail
      go_round
      case rel => exact ⟨m + 1, crcStep z, by omega, by go_num, rfl, by show _ = _; rw [unhide HM]; rfl⟩
      case measure => simp [intOf]; omega
     ·have h1 : (z : Int).tmod 2 = 0 := by rw [Int.tmod_eq_emod_of_nonneg hz0]; omega
      have HE := hide (step_even z ho)
      clear ho hz
      go_wp2_with fail
      go_round
      case rel => exact ⟨m + 1, z / 2, by omega, by go_num, by go_num, by show z / 2 = crcStep (crcN m _); rw [← unhide HE, unhide HM]⟩
      case measure => simp [intOf]; omega
    ·have em : m = 8 := by omega
     have HV : Hid (z = crcL (l.take (k + 1))) := by show _ = _; rw [crc_snoc l k hlt, ← unhide HY, unhide HM, em]
     clear hz em
     go_wp2_with fail
     go_round
     case rel => exact ⟨k + 1, z, by omega, by go_num, rfl, HV⟩
     case measure => simp [intOf]; omega
  ·have h2 : bits BinOp.xor IntKind.i64 (y : Int) 4294967295 = chk l := by
    have := i64_xor_nat y 4294967295 hy (by omega)
    rw [show ((4294967295 : Nat) : Int) = 4294967295 from rfl] at this
    rw [this, unhide HY, List.take_of_length_le (by omega)]; rfl
   clear hy
   go_wp2_with fail
   go_ret
   exact ⟨rfl, rfl⟩

def chkA (l : List UInt8) : Int := if 65536 < l.length then 0 else chk l
theorem chkA_long {l : List UInt8} (h : 65536 < l.length) : chkA l = 0 := by unfold chkA; rw [if_pos h]
theorem chkA_ok {l : List UInt8} (h : ¬ 65536 < l.length) : chkA l = chk l := by unfold chkA; rw [if_neg h]
theorem icheck (a : Option Addr) (cap : Nat) (l : List UInt8) (hl : l.length ≤ 1048576) (w : World) (hr : Row8 w a l) :
  Calls Tryz.prog 121 #[.slice a l.length cap] w fun e w' => e = .returned (.int .i64 (chkA l)) ∧ w' = w := by
 by_cases h : 65536 < l.length
 ·have HV := hide (chkA_long h)
  clear hr
  go_enter Tryz.func121, Tryz.ntmps121
  go_wp2_with fail
  go_ret
  rw [unhide HV]
  exact ⟨rfl, rfl⟩
 ·rw [chkA_ok h]; exact check10 a cap l (by omega) w hr
end Go.Proofs.YtfogppnijdjakaaGreatDoor

/- Frames read from bytes. Plain mathematics. -/
namespace Go.Proofs.YtfogppnijdjakaaGreatDoor
open Go.ChangeShapes Go.WideShapes Go.ChangeAt Go.RowKit
/-- The data's length that a frame's head tells. -/
def frN (l : List UInt8) : Nat := ofBE (l.take 3)
/-- What is wrong with the first frame: 0 nothing, 14 not whole, 8 none. -/
def frC (l : List UInt8) : Int := if l.length < 7 then 14 else if frN l < 1 ∨ 65536 < frN l then 8 else if l.length - 7 < frN l then 14 else if chk (l.take 3 ++ (l.drop 7).take (frN l)) = ((ofBE ((l.drop 3).take 4) : Nat) : Int) then 0 else 8
def frD (l : List UInt8) : List UInt8 := (l.drop 7).take (frN l)
def frT (l : List UInt8) : List UInt8 := (l.drop 7).drop (frN l)
/-- The frames, how many bytes they are, what is behind. -/
def frs : Nat → List UInt8 → List ByteArray × Nat × Int
 | 0, _ => ([], 0, 0)
 | f + 1, l => if l = [] then ([], 0, 0) else if frC l = 0 then (⟨(frD l).toArray⟩ :: (frs f (frT l)).1, 7 + frN l + (frs f (frT l)).2.1, (frs f (frT l)).2.2) else ([], 0, frC l)
theorem frC_ok {l : List UInt8} (h : frC l = 0) : 7 ≤ l.length ∧ 1 ≤ frN l ∧ frN l ≤ 65536 ∧ 7 + frN l ≤ l.length ∧ chk (l.take 3 ++ frD l) = ((ofBE ((l.drop 3).take 4) : Nat) : Int) := by
 unfold frC at h
 split at h
 ·cases h
 ·split at h
  ·cases h
  ·split at h
   ·cases h
   ·split at h
    ·rename_i h4
     exact ⟨by omega, by omega, by omega, by omega, h4⟩
    ·cases h
theorem frT_len {l : List UInt8} (h : frC l = 0) : (frT l).length + (7 + frN l) = l.length := by
 obtain ⟨h1, h2, h3, h4, _⟩ := frC_ok h
 unfold frT
 rw [List.length_drop, List.length_drop]; omega
theorem frD_len {l : List UInt8} (h : frC l = 0) : (frD l).length = frN l := by
 obtain ⟨h1, h2, h3, h4, _⟩ := frC_ok h
 unfold frD
 rw [List.length_take, List.length_drop]; omega
theorem frs_nil (f : Nat) : frs f [] = ([], 0, 0) := by cases f <;> simp [frs]
theorem frs_step {l : List UInt8} (f : Nat) (h0 : l ≠ []) (h : frC l = 0) : frs (f + 1) l = (⟨(frD l).toArray⟩ :: (frs f (frT l)).1, 7 + frN l + (frs f (frT l)).2.1, (frs f (frT l)).2.2) := by
 simp only [frs, if_neg h0, if_pos h]
theorem frs_bad {l : List UInt8} (f : Nat) (h0 : l ≠ []) (h : ¬ frC l = 0) : frs (f + 1) l = ([], 0, frC l) := by
 simp only [frs, if_neg h0, if_neg h]
theorem frs_len : ∀ (f : Nat) (l : List UInt8), (frs f l).1.length ≤ f
 | 0, l => by simp [frs]
 | f + 1, l => by
  by_cases h0 : l = []
  ·subst h0; rw [frs_nil]; simp
  ·by_cases h1 : frC l = 0
   ·rw [frs_step f h0 h1]; have := frs_len f (frT l); simp; omega
   ·rw [frs_bad f h0 h1]; simp
/-- What ReadFrames answers. -/
def rdL (l : List UInt8) : List ByteArray := if 65536 < l.length then [] else (frs l.length l).1
def rdP (l : List UInt8) : Int := if 65536 < l.length then 0 else ((frs l.length l).2.1 : Int)
def rdC (l : List UInt8) : Int := if 65536 < l.length then 2 else (frs l.length l).2.2
end Go.Proofs.YtfogppnijdjakaaGreatDoor

/- l02Of: the number of a text of bytes. -/
namespace Go.Proofs.YtfogppnijdjakaaGreatDoor
open Go.ChangeShapes Go.WideShapes Go.ChangeAt Go.RowKit
set_option maxHeartbeats 400000 in
set_option maxRecDepth 100000 in
theorem snumberOf (s : ByteArray) (hs : s.size ≤ 4) (w : World) :
  Calls Tryz.prog 76 #[.string s] w fun e w' => e = .returned (.int .i64 ((ofBE s.data.toList : Nat) : Int)) ∧ w' = w := by
 obtain ⟨l, hl⟩ : ∃ l, l = s.data.toList := ⟨_, rfl⟩
 have hll : l.length = s.size := by rw [hl]; simp
 rw [← hl]
 have HL := hide hl
 clear hl
 go_enter Tryz.func76, Tryz.ntmps76
 go_wp2_with fail
 go_loop [3, 4] (fun r i => ∃ k y : Nat, k ≤ s.size ∧ i = .int .i64 k ∧ r = .int .i64 (y : Int) ∧ Hid (y = ofBE (l.take k))) (fun _ i => s.size - (intOf i).toNat)
 case atStart => exact ⟨0, 0, by omega, rfl, rfl, rfl⟩
 case round =>
  obtain ⟨k, y, hk, rfl, rfl, HY⟩ := hrel
  have hy : y < 256 ^ k := by have := ofBE_lt l k; rw [← unhide HY] at this; exact this
  by_cases hlt : k < s.size
  ·have hy2 : y < 16777216 := Nat.lt_of_lt_of_le hy (Nat.le_trans (Nat.pow_le_pow_right (by decide) (show k ≤ 3 by omega)) (by decide))
   have HE : Hid (l[k]'(by omega) = s[k]) := by show _ = _; have := unhide HL; subst this; rfl
   have HZ : Hid (ofBE (l.take (k + 1)) = y * 256 + s[k].toNat) := by show _ = _; rw [ofBE_snoc l k (by omega), unhide HY, unhide HE]
   have hlt' : (k : Int) < (s.size : Int) := by omega
   have c0 : (s[k].toNat : Int) ≤ 255 := by have := s[k].toNat_lt; omega
   have y0 : (y : Int) ≤ 16777216 := by omega
   clear hy hy2 HE hll
   go_wp2_with fail
   go_round
   case rel => exact ⟨k + 1, y * 256 + s[k].toNat, by omega, by go_num, by go_num, (unhide HZ).symm⟩
   case measure => simp [intOf]; omega
  ·have HV : Hid (((ofBE l : Nat) : Int) = (y : Int)) := by show _ = _; rw [unhide HY, List.take_of_length_le (by omega)]
   clear hy hll
   go_wp2_with fail
   go_ret
   exact ⟨ret_int (unhide HV).symm, rfl⟩
end Go.Proofs.YtfogppnijdjakaaGreatDoor

/- Small laws on texts and rows of bytes, for frames. -/
namespace Go.Proofs.YtfogppnijdjakaaGreatDoor
open Go.ChangeShapes Go.WideShapes Go.ChangeAt Go.RowKit
set_option linter.unusedVariables false
theorem cut_listT (s : ByteArray) (i j : Nat) : (s.extract i j).data.toList = (s.data.toList.drop i).take (j - i) := by simp
theorem cut_sizeT (s : ByteArray) (i j : Nat) (h : j ≤ s.size) : (s.extract i j).size = j - i := by rw [ByteArray.size_extract]; omega
theorem lit_emptyT (w : World) (base : Nat) (t : TypeId) (hb : base ≤ w.heap.size) : (w.alloc (.cells #[] t)).ownsRow base t 1 (.slice (some ⟨w.heap.size, 0, none⟩) 0 0) ([] : List ByteArray).length (cS []) := lit_empty w base t hb
theorem own_appF {w : World} {base : Nat} {e : TypeId} {v : Value} {l m : List ByteArray} {n : Nat} (h : w.ownsRow base e 1 v (l.length + n) (cS l ++ cS m)) (hn : m.length = n) : w.ownsRow base e 1 v (l ++ m).length (cS (l ++ m)) := by
 rw [cS_app, List.length_append, hn]; exact h
theorem sizeT (s : ByteArray) : s.data.toList.length = s.size := by rw [Array.length_toList]; rfl
theorem bytes_belowT (w : World) (s : ByteArray) : Below w.heap.size w (Go.Lib.bytesWorld w 5 s) := ⟨rfl, rfl, rfl, by rw [Go.Lib.bytesWorld_size]; omega, fun k hk => Go.Lib.bytesWorld_at_old w _ s k hk⟩
theorem bytes_rowT (w : World) (s : ByteArray) : Row8 (Go.Lib.bytesWorld w 5 s) (some ⟨w.heap.size, 0, none⟩) s.data.toList := by
 refine .inr ⟨w.heap.size, 0, rfl, by rw [Go.Lib.bytesWorld_size]; omega, fun i hi => ?_⟩
 have h := Go.Lib.bytesWorld_cell w 5 s i (by rw [← sizeT]; exact hi)
 rw [Nat.zero_add, h, List.getD_eq_getElem?_getD, List.getElem?_eq_getElem hi]; rfl
theorem check16n (a : Option Addr) (cap n : Nat) (l : List UInt8) (hn : l.length = n) (hl : n ≤ 65536) (w : World) (hr : Row8 w a l) :
  Calls Tryz.prog 77 #[.slice a n cap] w fun e w' => e = .returned (.int .i64 (chk l)) ∧ w' = w := by
 subst hn; exact check16 a cap l hl w hr
theorem cat_listT (a b : ByteArray) : (a ++ b).data.toList = a.data.toList ++ b.data.toList := by simp
end Go.Proofs.YtfogppnijdjakaaGreatDoor
