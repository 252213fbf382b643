/- Texts put together: ItoI TokM IssM CliM Pair NumM. -/
import Derived.Test.YtmmnoepcklfonaaGreatDoorZDigS
import Derived.Test.YtmmnoepcklfonaaGreatDoorZShelf
import Derived.Lib.LaidU8
import Derived.Lib.AppendIntMem
import Derived.Test.YtmmnoepcklfonaaGreatDoorZG1
import Derived.Test.YtmmnoepcklfonaaGreatDoorZG10
import Derived.Laws.BitsAllLaws
import Derived.Laws.BitsLemmas
/- strconv.Itoa of small numbers, and the table of powers (the seat's Shelf: tools/shelf.sh SEAT 'Strconv\.Itoa3'). -/
namespace Go.Proofs.YtmmnoepcklfonaaGreatDoor
open Go.ChangeShapes Go.WideShapes Go.ChangeAt Go.RowKit
set_option linter.unusedVariables false
/-- The table of powers lies in its variable. -/
def PowIn (w : World) : Prop := Lib.TabIs Tryz.prog w "internal/strconv.uint64pow10" .u64 Lib.pow10Tab
theorem pow_named : Tryz.prog.globalNamed "internal/strconv.uint64pow10" = some 1 := by kernel_rfl
theorem PowIn.below {w w' : World} {B : Nat} (h : PowIn w) (hb : Below B w w') (h0 : 1 < B) : PowIn w' := by
  unfold PowIn Lib.TabIs World.var? at h ⊢
  rw [pow_named] at h ⊢
  simp only [Option.bind_some] at h ⊢
  rw [hb.block _ h0]
  exact h
theorem itoa_pos {x : Int} (h : 0 ≤ x) : Lib.itoa x = Lib.decDigits x.toNat := by unfold Lib.itoa; rw [if_neg (by omega)]
theorem pow_eq : (Rows.laid_internal_strconv_uint64pow10 : DataW Unit) = Lib.tabData .u64 Lib.pow10Tab := by kernel_rfl
theorem pow_reads {W : World} (h : Lib.VarReads Tryz.prog W "internal/strconv.uint64pow10" Rows.laid_internal_strconv_uint64pow10) : PowIn W := by
  rw [pow_eq] at h
  obtain ⟨g, t, cs, fuel, p, hg, ht, hv, hd⟩ := h
  obtain rfl : g = 1 := (Option.some.inj ((show Tryz.prog.globalNamed _ = some 1 by kernel_rfl).symm.trans hg)).symm
  obtain rfl : t = 150 := (Option.some.inj ((show (Tryz.prog.globals[1]?).map (·.type) = some 150 by kernel_rfl).symm.trans ht)).symm
  have hcs := Lib.cells_of_tab (zs := Lib.pow10Tab) Tryz.underlying150 Tryz.underlying140 (by kernel_rfl) (by kernel_rfl) hd
  unfold PowIn Lib.TabIs
  rw [hv, ← hcs]
theorem PowIn.pos {w : World} (hp : PowIn w) : 1 < w.heap.size := by
  unfold PowIn Lib.TabIs World.var? at hp
  rw [pow_named] at hp
  rcases Nat.lt_or_ge 1 w.heap.size with h | h
  · exact h
  · simp only [Option.bind_some] at hp; rw [Array.getElem?_eq_none h] at hp; cases hp
/-- A number's text, -1 too. -/
def zt (n : Int) : ByteArray := ⟨(Lib.itoa n).toArray⟩
theorem zt_pos {n : Int} (h : 0 ≤ n) : zt n = digS n.toNat := by unfold zt digS; rw [itoa_pos h]
theorem zt_one : zt (-1) = ⟨#[45]⟩ ++ digS 1 := by unfold zt digS Lib.itoa; rw [if_pos (by decide)]; apply ByteArray.ext; simp
theorem zt_size {n : Int} (h0 : -1 ≤ n) (h1 : n ≤ 9999) : (zt n).size ≤ 5 := by
  by_cases h : n = -1
  · subst h; rw [zt_one, ByteArray.size_append]; have := digS_size 1 (by decide); have e : (⟨#[45]⟩ : ByteArray).size = 1 := rfl; omega
  · rw [zt_pos (by omega)]; have := digS_size n.toNat (by omega); omega
theorem iitoaZ (n : Int) (h0 : -1 ≤ n) (h1 : n ≤ 9999) (w : World) (hp : PowIn w) (hg : 1 < w.heap.size) : Calls Tryz.prog 90 #[.int .i64 n] w fun e w' => e = .returned (.string (zt n)) ∧ Below w.heap.size w w' := by
  have h := Tryz.strconv_Itoa n (by omega) (by omega) w hp
  refine Calls.mono (show Calls Tryz.prog 90 #[.int .i64 n] w _ from h) ?_
  rintro e w' ⟨rfl, k, os, rfl⟩
  exact ⟨rfl, Go.Lib.below_grow w.heap.size w (Nat.le_refl _) k os⟩
end Go.Proofs.YtmmnoepcklfonaaGreatDoor

/- Tokens: plain mathematics. -/
namespace Go.Proofs.YtmmnoepcklfonaaGreatDoor
open Go.ChangeShapes Go.WideShapes Go.ChangeAt Go.RowKit
set_option linter.unusedVariables false
/-- Texts with a blank ahead of each but the first. -/
def bjL (x : List UInt8) (m : List ByteArray) : List UInt8 := x ++ m.flatMap fun t => 32 :: t.data.toList
def bjS (x : ByteArray) (m : List ByteArray) : ByteArray := ⟨(bjL x.data.toList m).toArray⟩
theorem bjL_snoc (x : List UInt8) (m : List ByteArray) (k : Nat) (h : k < m.length) : bjL x (m.take (k + 1)) = bjL x (m.take k) ++ [32] ++ m[k].data.toList := by
  unfold bjL
  rw [List.take_add_one, List.getElem?_eq_getElem h, Option.toList_some, List.flatMap_append, List.flatMap_singleton]
  simp
theorem bjL_len (x : List UInt8) (m : List ByteArray) (Y : Nat) (h : ∀ k (h : k < m.length), m[k].size ≤ Y) (k : Nat) : (bjL x (m.take k)).length ≤ x.length + k * (Y + 1) := by
  induction k with
  | zero => simp [bjL]
  | succ k ih =>
    by_cases hk : k < m.length
    · rw [bjL_snoc x m k hk]
      have e := h k hk
      have e2 : m[k].data.toList.length = m[k].size := Array.length_toList
      simp only [List.length_append, List.length_cons, List.length_nil]
      rw [e2, Nat.add_mul]
      omega
    · rw [List.take_of_length_le (by omega)]
      rw [List.take_of_length_le (by omega)] at ih
      rw [Nat.add_mul]; omega
def tokT : ByteArray := ⟨#[116, 111, 107, 101, 110]⟩
def blkT : ByteArray := ⟨#[32]⟩
/-- What the mark is of. -/
def hdT (c : Int) (win : ByteArray) (n : Int) : ByteArray := bjS tokT [zt c, win, zt n]
theorem hdT_spec (c : Int) (win : ByteArray) (n : Int) : ((((⟨#[116, 111, 107, 101, 110, 32]⟩ : ByteArray) ++ zt c) ++ blkT) ++ win) ++ blkT ++ zt n = hdT c win n := by
  unfold hdT bjS bjL tokT blkT
  apply ByteArray.ext
  apply Array.toList_inj.1
  simp
def tokB (c : Int) (win : ByteArray) (n : Int) : Bool := inB c 0 200 && (wnB win && inB n (-1) 60)
theorem tok_parts {c : Int} {win : ByteArray} {n : Int} (h : tokB c win n = true) : 0 ≤ c ∧ c ≤ 200 ∧ win.size ≤ 12 ∧ -1 ≤ n ∧ n ≤ 60 := by
  unfold tokB wnB inB at h
  simp only [Bool.and_eq_true, decide_eq_true_eq] at h
  omega
theorem hdT_size {c : Int} {win : ByteArray} {n : Int} (h : tokB c win n = true) : (hdT c win n).size ≤ 60 := by
  obtain ⟨h0, h1, h2, h3, h4⟩ := tok_parts h
  rw [← hdT_spec]
  simp only [ByteArray.size_append]
  have e1 := zt_size (n := c) (by omega) (by omega)
  have e2 := zt_size (n := n) (by omega) (by omega)
  have e3 : (⟨#[116, 111, 107, 101, 110, 32]⟩ : ByteArray).size = 6 := rfl
  have e4 : blkT.size = 1 := rfl
  omega
/-- A hash's first 32 digits. -/
def hexT (H : ByteArray) : ByteArray := ⟨(hexL H.data.toList).toArray⟩
def mkT (key : ByteArray) (c : Int) (win : ByteArray) (n : Int) : ByteArray := (hexT (hmacB key (hdT c win n))).extract 0 32
def tmL (key : ByteArray) (win : ByteArray) : Bool := decide (65536 < key.size ∨ 65536 < win.size)
def tmS (key : ByteArray) (c : Int) (win : ByteArray) (n : Int) : ByteArray := if tmL key win then ⟨#[]⟩ else if tokB c win n then mkT key c win n else ⟨#[]⟩
def tmC (key : ByteArray) (c : Int) (win : ByteArray) (n : Int) : Int := if tmL key win then 2 else if tokB c win n then 0 else 1
end Go.Proofs.YtmmnoepcklfonaaGreatDoor

/- A token. Plain mathematics. -/
namespace Go.Proofs.YtmmnoepcklfonaaGreatDoor
open Go.ChangeShapes Go.WideShapes Go.ChangeAt Go.RowKit
set_option linter.unusedVariables false
def issT (key : ByteArray) (c : Int) (win : ByteArray) (n : Int) : ByteArray := bjS (hdT c win n) [mkT key c win n]
theorem issT_spec (key : ByteArray) (c : Int) (win : ByteArray) (n : Int) : issT key c win n = (hdT c win n ++ ⟨#[32]⟩) ++ mkT key c win n := by
  unfold issT bjS bjL
  apply ByteArray.ext
  apply Array.toList_inj.1
  simp
theorem mkT_size (key : ByteArray) (c : Int) (win : ByteArray) (n : Int) : (mkT key c win n).size = 32 := by
  unfold mkT
  have h : (hexT (hmacB key (hdT c win n))).size = 64 := by
    show (hexL _).toArray.size = 64
    rw [List.size_toArray, hexL_len, show (hmacB key (hdT c win n)).data.toList.length = (hmacB key (hdT c win n)).size from Array.length_toList]
    rw [show (hmacB key (hdT c win n)).size = 32 from hash_size _]
  rw [ByteArray.size_extract, h]; rfl
def itkS (key : ByteArray) (c : Int) (win : ByteArray) (n : Int) : ByteArray := if tmL key win then ⟨#[]⟩ else if tokB c win n then issT key c win n else ⟨#[]⟩
end Go.Proofs.YtmmnoepcklfonaaGreatDoor

/- A new client. Plain mathematics. -/
namespace Go.Proofs.YtmmnoepcklfonaaGreatDoor
open Go.ChangeShapes Go.WideShapes Go.ChangeAt Go.RowKit
set_option linter.unusedVariables false
/-- What a new client is, told once: its token S and the code q as IssueToken's. -/
def NcIs (key : ByteArray) (id : Int) (win : ByteArray) (id2 : Int) (win2 S : ByteArray) (nb2 q : Int) : Prop :=
  S = itkS key id win (-1) ∧ q = tmC key id win (-1) ∧ (q = 0 → id2 = id ∧ win2 = win ∧ nb2 = -1) ∧ (q ≠ 0 → id2 = 0 ∧ win2 = ⟨#[]⟩ ∧ nb2 = 0)
theorem tm_parts {key : ByteArray} {c : Int} {win : ByteArray} {n : Int} (h : tmC key c win n = 0) : tmL key win = false ∧ tokB c win n = true := by
  unfold tmC at h
  split at h
  · cases h
  · split at h
    · refine ⟨by simp_all, by assumption⟩
    · cases h
end Go.Proofs.YtmmnoepcklfonaaGreatDoor

/- Rows of pairs of integers: an element is two cells. Rows of elements of any size that a call owns, kept while other rows turn. -/
namespace Go.Proofs.YtmmnoepcklfonaaGreatDoor
open Go.ChangeShapes Go.WideShapes Go.ChangeAt Go.RowKit
def cP (l : List (Int × Int)) : List Value := l.flatMap fun c => [.int .i64 c.1, .int .i64 c.2]
theorem cP_cons (c : Int × Int) (l : List (Int × Int)) : cP (c :: l) = .int .i64 c.1 :: .int .i64 c.2 :: cP l := rfl
theorem cP_len (l : List (Int × Int)) : (cP l).length = l.length * 2 := by
  induction l with
  | nil => rfl
  | cons c l ih => rw [cP_cons]; simp [ih]; omega
theorem cP_at (l : List (Int × Int)) : ∀ (k : Nat) (h : k < l.length), (cP l)[k * 2]? = some (.int .i64 l[k].1) ∧ (cP l)[k * 2 + 1]? = some (.int .i64 l[k].2) := by
  induction l with
  | nil => intro k h; simp at h
  | cons c l ih =>
    intro k h
    cases k with
    | zero => exact ⟨rfl, rfl⟩
    | succ k =>
      have := ih k (by simpa using h)
      rw [cP_cons, show (k + 1) * 2 = k * 2 + 1 + 1 from by omega]
      simpa using this
/-- v owns its row of elements of z cells each in a block from lo up to hi. -/
def HeldZ (z : Nat) (w : World) (lo hi : Nat) (e : TypeId) (v : Value) (n : Nat) (xs : List Value) : Prop :=
  w.ownsRow lo e z v n xs ∧ (∀ k, v.ownBlock = some k → k < hi) ∧ hi ≤ w.heap.size
theorem heldZ_of {z : Nat} {w : World} {lo : Nat} {e : TypeId} {v : Value} {n : Nat} {xs : List Value} (h : w.ownsRow lo e z v n xs) : HeldZ z w lo w.heap.size e v n xs :=
  ⟨h, fun k hk => (h.lt k hk).2, Nat.le_refl _⟩
theorem HeldZ.below {z : Nat} {w w' : World} {lo hi B : Nat} {e : TypeId} {v : Value} {n : Nat} {xs : List Value} (h : HeldZ z w lo hi e v n xs) (hb : Below B w w') (hB : hi ≤ B) : HeldZ z w' lo hi e v n xs := by
  obtain ⟨⟨hl, h2⟩, hk, hs⟩ := h
  refine ⟨⟨hl, ?_⟩, hk, Nat.le_trans hs hb.size⟩
  rcases h2 with h2 | ⟨g, cap, cur, rfl, hbg, hg, hrest⟩
  · exact .inl h2
  · exact .inr ⟨g, cap, cur, rfl, hbg, (hb.block g (Nat.lt_of_lt_of_le (hk g rfl) hB)).trans hg, hrest⟩
theorem HeldZ.grown {z : Nat} {w w' : World} {lo hi : Nat} {row : Option Nat} {e : TypeId} {v : Value} {n : Nat} {xs : List Value} (h : HeldZ z w lo hi e v n xs) (hg : w.grownBy w' row) (hr : ∀ k, row = some k → k < lo ∨ hi ≤ k) : HeldZ z w' lo hi e v n xs := by
  obtain ⟨ho, hk, hs⟩ := h
  refine ⟨ho.kept hg ?_, hk, Nat.le_trans hs hg.size⟩
  cases hv : v.ownBlock with
  | none => exact .inl rfl
  | some k =>
    right; intro he
    rcases hr k he.symm with h1 | h1
    · exact absurd (ho.lt k hv).1 (by omega)
    · exact absurd (hk k hv) (by omega)
theorem HeldZ.own {z : Nat} {w : World} {lo hi : Nat} {e : TypeId} {v : Value} {n : Nat} {xs : List Value} (h : HeldZ z w lo hi e v n xs) : w.ownsRow lo e z v n xs := h.1
theorem HeldZ.le {z : Nat} {w : World} {lo hi : Nat} {e : TypeId} {v : Value} {n : Nat} {xs : List Value} (h : HeldZ z w lo hi e v n xs) : hi ≤ w.heap.size := h.2.2
theorem HeldZ.blk {z : Nat} {w : World} {lo hi : Nat} {e : TypeId} {v : Value} {n : Nat} {xs : List Value} (h : HeldZ z w lo hi e v n xs) : ∀ k, v.ownBlock = some k → lo ≤ k ∧ k < hi := fun k hk => ⟨(h.1.lt k hk).1, h.2.1 k hk⟩
theorem ownZ_rowV {z : Nat} {w : World} {base : Nat} {e : TypeId} {v : Value} {n : Nat} {xs : List Value} (h : w.ownsRow base e z v n xs) : ∃ a cap, v = .slice a n cap ∧ RowV w a xs := by
  obtain ⟨hl, h2⟩ := h
  rcases h2 with ⟨rfl, rfl⟩ | ⟨g, cap, cur, rfl, hbg, hg, hrest⟩
  · exact ⟨none, 0, rfl, .inl (List.length_eq_zero_iff.1 (by simpa using hl))⟩
  · refine ⟨some ⟨g, 0, none⟩, cap, rfl, ?_⟩
    have hown : w.ownsRow base e z (.slice (some ⟨g, 0, none⟩) n cap) n xs := ⟨hl, .inr ⟨g, cap, cur, rfl, hbg, hg, hrest⟩⟩
    refine .inr ⟨g, 0, rfl, (hown.lt g rfl).2, fun i u hu => ?_⟩
    have hi : i < xs.length := (List.getElem?_eq_some_iff.1 hu).1
    rw [Nat.zero_add, hown.cellAt i (by omega), hu]
theorem rowZ_at {z : Nat} {w : World} {base : Nat} {e : TypeId} {a : Option Addr} {n cap : Nat} {xs : List Value} (h : w.ownsRow base e z (.slice a n cap) n xs) : RowV w a xs := by
  obtain ⟨a', cap', e, h⟩ := ownZ_rowV h
  injection e with e1; subst e1; exact h
theorem HeldZ.rowV {z : Nat} {w : World} {lo hi : Nat} {e : TypeId} {a : Option Addr} {n cap : Nat} {xs : List Value} (h : HeldZ z w lo hi e (.slice a n cap) n xs) : RowV w a xs := rowZ_at h.1
theorem HeldZ.row {z : Nat} {w : World} {lo hi : Nat} {e : TypeId} {v : Value} {n : Nat} {xs : List Value} (h : HeldZ z w lo hi e v n xs) : ∃ a cap, v = .slice a n cap ∧ RowV w a xs := ownZ_rowV h.1
theorem Below.markedZ {z : Nat} {w0 w w' : World} {B lo hi : Nat} {e : TypeId} {v : Value} {n : Nat} {xs : List Value} (hb : Below B w0 w) (hB : B ≤ w.heap.size) (h : HeldZ z w lo hi e v n xs) (hl : B ≤ lo) (hg : w.grownBy w' v.ownBlock) : Below B w0 w' :=
  hb.grown hg hB fun k hk => Nat.le_trans hl (h.blk k hk).1
/-- The pairs from place s on, j of them, turned into blanks. -/
def blk (l : List (Int × Int)) (s : Nat) : Nat → List (Int × Int)
  | 0 => l
  | j + 1 => (blk l s j).set (s + j) (32, 0)
end Go.Proofs.YtmmnoepcklfonaaGreatDoor

/- Numbers as bytes, the higher ones first: what both texts write and read. -/
namespace Go.Proofs.YtmmnoepcklfonaaGreatDoor
open Go.ChangeShapes Go.WideShapes Go.ChangeAt Go.RowKit

def nb (v j : Nat) : UInt8 := UInt8.ofNat (v / 256 ^ j % 256)
def be (v : Nat) : Nat → List UInt8
  | 0 => []
  | s + 1 => nb v s :: be v s
def ofBE (l : List UInt8) : Nat := l.foldl (fun n c => n * 256 + c.toNat) 0
theorem ofBE_app (l : List UInt8) (c : UInt8) : ofBE (l ++ [c]) = ofBE l * 256 + c.toNat := by unfold ofBE; rw [List.foldl_append]; rfl
theorem ofBE_snoc (l : List UInt8) (k : Nat) (h : k < l.length) : ofBE (l.take (k + 1)) = ofBE (l.take k) * 256 + l[k].toNat := by
  rw [List.take_succ_eq_append_getElem h, ofBE_app]
theorem ofBE_lt (l : List UInt8) (k : Nat) : ofBE (l.take k) < 256 ^ k := by
  induction k with
  | zero => simp [ofBE]
  | succ k ih =>
    by_cases h : k < l.length
    · rw [ofBE_snoc l k h, Nat.pow_succ]; have := l[k].toNat_lt; omega
    · rw [List.take_of_length_le (by omega)]; rw [List.take_of_length_le (by omega)] at ih; rw [Nat.pow_succ]; omega
theorem or_byte (n : Nat) (c : Nat) (hn : n < 4294967296) (hc : c < 256) : bits .or .i64 ((n : Int) * 256) (c : Int) = ((n * 256 + c : Nat) : Int) := by
  have h : n <<< 8 + c = n <<< 8 ||| c := Nat.shiftLeft_add_eq_or_of_lt (by omega) n
  rw [Nat.shiftLeft_eq, show (2 : Nat) ^ 8 = 256 from rfl] at h
  show IntKind.i64.wrap ((BitVec.ofInt 64 ((n : Int) * 256) ||| BitVec.ofInt 64 (c : Int)).toNat : Int) = _
  rw [show (n : Int) * 256 = ((n * 256 : Nat) : Int) from by omega, BitVec.toNat_or, ofInt_u64 (n * 256) (by omega), ofInt_u64 c (by omega), ← h, IntKind.wrap_i64]
  omega
end Go.Proofs.YtmmnoepcklfonaaGreatDoor
