/- Texts put together: ByteS Crc FrmM. -/
import Derived.Test.YtninnmcehcaadaaDoorZG0
import Derived.Laws.BitsAllLaws
import Derived.Laws.BitsLemmas
import Derived.Test.YtninnmcehcaadaaDoorZG4
/- Slices of bytes: a copy owns its memory and holds the same bytes; two rows are held against each other. -/
namespace Go.Proofs.YtninnmcehcaadaaDoor
open Go.ChangeShapes Go.WideShapes Go.ChangeAt Go.RowKit
theorem Tryd.inf5 : (Tryd.prog.info? 5).map (fun i => (i.zero, i.size, i.bytes)) = some (some (.int .u8 0), 1, 1) := by kernel_rfl

def fill8 (l : List UInt8) (k : Nat) : List Value := B8 (l.take k) ++ List.replicate (l.length - k) (.int .u8 0)
theorem fill8_zero (l : List UInt8) : fill8 l 0 = (madeCells (Value.int .u8 0).cells (l.length * 1)).toList := by
  show _ = (madeCells #[Value.int .u8 0] (l.length * 1)).toList
  rw [toList_madeCells_one]; simp [fill8, B8]
theorem fill8_all (l : List UInt8) (k : Nat) (h : l.length ≤ k) : fill8 l k = B8 l := by
  unfold fill8; rw [List.take_of_length_le h, show l.length - k = 0 from by omega]; simp
theorem fill8_set (l : List UInt8) (k : Nat) (h : k < l.length) : (fill8 l k).set k (.int .u8 (l[k].toNat : Int)) = fill8 l (k + 1) := by
  have e1 : (B8 (l.take k)).length = k := by rw [B8_len, List.length_take]; omega
  unfold fill8
  rw [List.set_append_right _ _ (by omega), e1, Nat.sub_self, List.take_succ_eq_append_getElem h, B8_app]
  obtain ⟨m, hm⟩ : ∃ m, l.length - k = m + 1 := ⟨l.length - k - 1, by omega⟩
  rw [hm, show l.length - (k + 1) = m from by omega]
  simp [List.replicate_succ, B8]
theorem fill8_at (l : List UInt8) (k : Nat) (h : k < l.length) : (fill8 l k)[k]? = some (.int .u8 0) := by
  have e1 : (B8 (l.take k)).length = k := by rw [B8_len, List.length_take]; omega
  unfold fill8
  rw [List.getElem?_append_right (by omega), e1, Nat.sub_self]
  obtain ⟨m, hm⟩ : ∃ m, l.length - k = m + 1 := ⟨l.length - k - 1, by omega⟩
  rw [hm]; rfl

end Go.Proofs.YtninnmcehcaadaaDoor

/- CRC-32: what both texts reckon at every row of at most 65536 bytes. -/
namespace Go.Proofs.YtninnmcehcaadaaDoor
open Go.ChangeShapes Go.WideShapes Go.ChangeAt Go.RowKit

def crcStep (x : Nat) : Nat := if x % 2 = 1 then (x / 2) ^^^ 3988292384 else x / 2
def crcN : Nat → Nat → Nat
  | 0, x => x
  | k + 1, x => crcStep (crcN k x)
def crcL (l : List UInt8) : Nat := l.foldl (fun r c => crcN 8 (r ^^^ c.toNat)) 4294967295
def chk (l : List UInt8) : Int := ((crcL l ^^^ 4294967295 : Nat) : Int)
theorem crcStep_lt (x : Nat) (h : x < 4294967296) : crcStep x < 4294967296 := by
  unfold crcStep
  split
  · have : (x / 2) ^^^ 3988292384 < 2 ^ 32 := Nat.xor_lt_two_pow (by omega) (by omega)
    omega
  · omega
theorem crcN_lt (k x : Nat) (h : x < 4294967296) : crcN k x < 4294967296 := by
  induction k with
  | zero => exact h
  | succ k ih => exact crcStep_lt _ ih
theorem xor_lt (x : Nat) (c : UInt8) (h : x < 4294967296) : x ^^^ c.toNat < 4294967296 := by
  have := c.toNat_lt
  have : x ^^^ c.toNat < 2 ^ 32 := Nat.xor_lt_two_pow (by omega) (by omega)
  omega
theorem crc_snoc (l : List UInt8) (k : Nat) (h : k < l.length) : crcL (l.take (k + 1)) = crcN 8 (crcL (l.take k) ^^^ l[k].toNat) := by
  unfold crcL
  rw [List.take_succ_eq_append_getElem h, List.foldl_append]
  rfl
theorem crcL_lt (l : List UInt8) : ∀ k, crcL (l.take k) < 4294967296 := by
  intro k
  induction k with
  | zero => simp [crcL]
  | succ k ih =>
    by_cases h : k < l.length
    · rw [crc_snoc l k h]; exact crcN_lt 8 _ (xor_lt _ _ ih)
    · rw [List.take_of_length_le (by omega)]; rw [List.take_of_length_le (by omega)] at ih; exact ih
theorem i64_xor_nat (a b : Nat) (ha : a < 4294967296) (hb : b < 4294967296) : bits .xor .i64 (a : Int) (b : Int) = ((a ^^^ b : Nat) : Int) := by
  have hx : a ^^^ b < 2 ^ 32 := Nat.xor_lt_two_pow (by omega) (by omega)
  show IntKind.i64.wrap ((BitVec.ofInt 64 (a : Int) ^^^ BitVec.ofInt 64 (b : Int)).toNat : Int) = _
  rw [BitVec.toNat_xor, ofInt_u64 a (by omega), ofInt_u64 b (by omega), IntKind.wrap_i64]
  omega
theorem odd_u32 (x : Nat) (h : x < 4294967296) : bits .and .u32 (x : Int) 1 = ((x % 2 : Nat) : Int) := by
  have := u32_and_nat x 1 h (by decide)
  rw [Nat.and_one_is_mod] at this
  simpa using this
theorem step_odd (x : Nat) (h : x % 2 = 1) : crcStep x = (x / 2) ^^^ 3988292384 := by unfold crcStep; rw [if_pos h]
theorem step_even (x : Nat) (h : ¬ x % 2 = 1) : crcStep x = x / 2 := by unfold crcStep; rw [if_neg h]

theorem fin_u32 (y : Nat) (h : y < 4294967296) : wrap64 (bits BinOp.xor IntKind.u32 IntKind.u32.max (y : Int)) = ((y ^^^ 4294967295 : Nat) : Int) := by
  have e : IntKind.u32.max = ((4294967295 : Nat) : Int) := by simp [IntKind.max, IntKind.signed, IntKind.bits]
  have hx : y ^^^ 4294967295 < 2 ^ 32 := Nat.xor_lt_two_pow (by omega) (by omega)
  rw [e, u32_xor_nat 4294967295 y (by omega) h, Nat.xor_comm]
  generalize y ^^^ 4294967295 = z at *
  unfold wrap64; omega

def chkA (l : List UInt8) : Int := if 65536 < l.length then 0 else chk l
theorem chkA_long {l : List UInt8} (h : 65536 < l.length) : chkA l = 0 := by unfold chkA; rw [if_pos h]
theorem chkA_ok {l : List UInt8} (h : ¬ 65536 < l.length) : chkA l = chk l := by unfold chkA; rw [if_neg h]
end Go.Proofs.YtninnmcehcaadaaDoor

/- Frames read from bytes. Plain mathematics. -/
namespace Go.Proofs.YtninnmcehcaadaaDoor
open Go.ChangeShapes Go.WideShapes Go.ChangeAt Go.RowKit
/-- The data's length that a frame's head tells. -/
def frN (l : List UInt8) : Nat := ofBE (l.take 3)
/-- What is wrong with the first frame: 0 nothing, 14 not whole, 8 none. -/
def frC (l : List UInt8) : Int := if l.length < 7 then 14 else if frN l < 1 ∨ 65536 < frN l then 8 else if l.length - 7 < frN l then 14 else if chk (l.take 3 ++ (l.drop 7).take (frN l)) = ((ofBE ((l.drop 3).take 4) : Nat) : Int) then 0 else 8
def frD (l : List UInt8) : List UInt8 := (l.drop 7).take (frN l)
def frT (l : List UInt8) : List UInt8 := (l.drop 7).drop (frN l)
/-- The frames, how many bytes they are, what is behind. -/
def frs : Nat → List UInt8 → List ByteArray × Nat × Int
  | 0, _ => ([], 0, 0)
  | f + 1, l => if l = [] then ([], 0, 0) else if frC l = 0 then (⟨(frD l).toArray⟩ :: (frs f (frT l)).1, 7 + frN l + (frs f (frT l)).2.1, (frs f (frT l)).2.2) else ([], 0, frC l)
theorem frC_ok {l : List UInt8} (h : frC l = 0) : 7 ≤ l.length ∧ 1 ≤ frN l ∧ frN l ≤ 65536 ∧ 7 + frN l ≤ l.length ∧ chk (l.take 3 ++ frD l) = ((ofBE ((l.drop 3).take 4) : Nat) : Int) := by
  unfold frC at h
  split at h
  · cases h
  · split at h
    · cases h
    · split at h
      · cases h
      · split at h
        · rename_i h4
          exact ⟨by omega, by omega, by omega, by omega, h4⟩
        · cases h
theorem frT_len {l : List UInt8} (h : frC l = 0) : (frT l).length + (7 + frN l) = l.length := by
  obtain ⟨h1, h2, h3, h4, _⟩ := frC_ok h
  unfold frT
  rw [List.length_drop, List.length_drop]; omega
theorem frD_len {l : List UInt8} (h : frC l = 0) : (frD l).length = frN l := by
  obtain ⟨h1, h2, h3, h4, _⟩ := frC_ok h
  unfold frD
  rw [List.length_take, List.length_drop]; omega
theorem frs_nil (f : Nat) : frs f [] = ([], 0, 0) := by cases f <;> simp [frs]
theorem frs_step {l : List UInt8} (f : Nat) (h0 : l ≠ []) (h : frC l = 0) : frs (f + 1) l = (⟨(frD l).toArray⟩ :: (frs f (frT l)).1, 7 + frN l + (frs f (frT l)).2.1, (frs f (frT l)).2.2) := by
  simp only [frs, if_neg h0, if_pos h]
theorem frs_bad {l : List UInt8} (f : Nat) (h0 : l ≠ []) (h : ¬ frC l = 0) : frs (f + 1) l = ([], 0, frC l) := by
  simp only [frs, if_neg h0, if_neg h]
theorem frs_all : ∀ (f : Nat) (l : List UInt8), l.length ≤ f → (frs f l).2.2 = 0 → (frs f l).2.1 = l.length
  | 0, l, h, _ => by have : l = [] := List.eq_nil_of_length_eq_zero (by omega); subst this; rfl
  | f + 1, l, h, hc => by
    by_cases h0 : l = []
    · subst h0; rw [frs_nil]; rfl
    · by_cases h1 : frC l = 0
      · rw [frs_step f h0 h1] at hc ⊢
        have := frT_len h1
        have ih := frs_all f (frT l) (by omega) hc
        show 7 + frN l + (frs f (frT l)).2.1 = _
        omega
      · rw [frs_bad f h0 h1] at hc; exact absurd hc h1
theorem frs_len : ∀ (f : Nat) (l : List UInt8), (frs f l).1.length ≤ f
  | 0, l => by simp [frs]
  | f + 1, l => by
    by_cases h0 : l = []
    · subst h0; rw [frs_nil]; simp
    · by_cases h1 : frC l = 0
      · rw [frs_step f h0 h1]; have := frs_len f (frT l); simp; omega
      · rw [frs_bad f h0 h1]; simp
theorem frC_codes (l : List UInt8) : frC l = 0 ∨ frC l = 8 ∨ frC l = 14 := by
  unfold frC
  split
  · exact .inr (.inr rfl)
  · split
    · exact .inr (.inl rfl)
    · split
      · exact .inr (.inr rfl)
      · split
        · exact .inl rfl
        · exact .inr (.inl rfl)
/-- What ReadFrames answers. -/
def rdL (l : List UInt8) : List ByteArray := if 65536 < l.length then [] else (frs l.length l).1
def rdP (l : List UInt8) : Int := if 65536 < l.length then 0 else ((frs l.length l).2.1 : Int)
def rdC (l : List UInt8) : Int := if 65536 < l.length then 2 else (frs l.length l).2.2
end Go.Proofs.YtninnmcehcaadaaDoor
