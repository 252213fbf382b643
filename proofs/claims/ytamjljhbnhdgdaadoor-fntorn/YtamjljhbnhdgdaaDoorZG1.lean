/- Texts put together: RowV NumM FrmM. -/
import Derived.Test.YtamjljhbnhdgdaaDoorZG0
import Derived.Laws.BitsAllLaws
import Derived.Laws.BitsLemmas
/- Rows of one-cell values that a call owns or reads, kept while other rows turn. -/
namespace Go.Proofs.YtamjljhbnhdgdaaDoor
open Go.ChangeShapes Go.WideShapes Go.ChangeAt Go.RowKit

/-- A slice's address a leads to the values xs (or there are none). -/
def RowV (w : World) (a : Option Addr) (xs : List Value) : Prop :=
 xs = [] ∨ ∃ b off, a = some ⟨b, off, none⟩ ∧ b < w.heap.size ∧ ∀ i u, xs[i]? = some u → w.cell? ⟨b, off + i, none⟩ = some u
theorem RowV.below {w w' : World} {a : Option Addr} {xs : List Value} (h : RowV w a xs) (hb : Below w.heap.size w w') : RowV w' a xs := by
 rcases h with h | ⟨b, off, e, hlt, hc⟩
 ·exact .inl h
 ·exact .inr ⟨b, off, e, Nat.lt_of_lt_of_le hlt hb.size, fun i u hu => (hb.cell (p := ⟨b, off + i, none⟩) hlt).trans (hc i u hu)⟩
theorem RowV.at {w : World} {a : Option Addr} {xs : List Value} (h : RowV w a xs) (hn : 0 < xs.length) :
  ∃ b off, a = some ⟨b, off, none⟩ ∧ b < w.heap.size ∧ ∀ i u, xs[i]? = some u → w.cell? ⟨b, off + i, none⟩ = some u := by
 rcases h with rfl | h
 ·simp at hn
 ·exact h
theorem rowV_8 {w : World} {a : Option Addr} {l : List UInt8} (h : RowV w a (B8 l)) : Row8 w a l := by
 rcases h with h | ⟨b, off, e, hlt, hc⟩
 ·left; have := congrArg List.length h; rw [B8_len] at this; exact List.length_eq_zero_iff.1 this
 ·exact .inr ⟨b, off, e, hlt, fun i hi => hc i _ (by simp [B8, List.getElem?_eq_getElem hi])⟩
theorem row8_V {w : World} {a : Option Addr} {l : List UInt8} (h : Row8 w a l) : RowV w a (B8 l) := by
 rcases h with rfl | ⟨b, off, e, hlt, hc⟩
 ·exact .inl rfl
 ·refine .inr ⟨b, off, e, hlt, fun i u hu => ?_⟩
  have hi : i < l.length := by have := (List.getElem?_eq_some_iff.1 hu).1; rwa [B8_len] at this
  rw [hc i hi, ← hu]; simp [B8, List.getElem?_eq_getElem hi]
theorem own_rowV {w : World} {base : Nat} {e : TypeId} {v : Value} {n : Nat} {xs : List Value} (h : w.ownsRow base e 1 v n xs) : ∃ a cap, v = .slice a n cap ∧ RowV w a xs := by
 obtain ⟨hl, h2⟩ := h
 rcases h2 with ⟨rfl, rfl⟩ | ⟨g, cap, cur, rfl, hbg, hg, hrest⟩
 ·exact ⟨none, 0, rfl, .inl (List.length_eq_zero_iff.1 (by simpa using hl))⟩
 ·refine ⟨some ⟨g, 0, none⟩, cap, rfl, ?_⟩
  have hown : w.ownsRow base e 1 (.slice (some ⟨g, 0, none⟩) n cap) n xs := ⟨hl, .inr ⟨g, cap, cur, rfl, hbg, hg, hrest⟩⟩
  refine .inr ⟨g, 0, rfl, (hown.lt g rfl).2, fun i u hu => ?_⟩
  have hi : i < xs.length := (List.getElem?_eq_some_iff.1 hu).1
  rw [Nat.zero_add, hown.cellAt i (by omega), hu]

theorem row_at {w : World} {base : Nat} {e : TypeId} {a : Option Addr} {n cap : Nat} {xs : List Value} (h : w.ownsRow base e 1 (.slice a n cap) n xs) : RowV w a xs := by
 obtain ⟨a', cap', e, h⟩ := own_rowV h
 injection e with e1; subst e1; exact h
/-- 'string(b)' where b reads as the bytes l. -/
theorem conv_row8 {P : Program} {w : World} {src dst e : TypeId} {a : Option Addr} {cap : Nat} {l : List UInt8} (hs : P.underlying src = some (.slice e)) (he : P.underlying e = some (.int .u8)) (hd : P.underlying dst = some .string)
  (h : Row8 w a l) : (convert src dst (.slice a l.length cap)).run P w = .ok (.string ⟨l.toArray⟩) w := by
 cases a with
 | none =>
  rcases h with rfl | ⟨b, off, e, _⟩
  ·exact run_convert_bytes_nil w src e hs he 0 cap dst hd
  ·cases e
 | some x =>
  refine run_convert_bytes_back w src dst e x cap l hs he hd ?_
  intro j hj
  rcases h with rfl | ⟨b, off, e, hlt, hc⟩
  ·simp at hj
  ·injection e with e; subst e
   rw [show (⟨b, off, none⟩ : Addr).add j = ⟨b, off + j, none⟩ from by unfold Addr.add; split <;> simp_all, hc j hj]
theorem row8_part {w : World} {b off : Nat} {l : List UInt8} (hb : b < w.heap.size) (hc : ∀ i (h : i < l.length), w.cell? ⟨b, off + i, none⟩ = some (.int .u8 (l[i].toNat : Int))) (s n : Nat) (h : s + n ≤ l.length) : Row8 w (some ⟨b, off + s, none⟩) ((l.drop s).take n) := by
 refine .inr ⟨b, off + s, rfl, hb, fun i hi => ?_⟩
 have hi' : i < n := by rw [List.length_take] at hi; omega
 rw [show off + s + i = off + (s + i) from by omega, hc (s + i) (by omega), List.getElem_take, List.getElem_drop]
theorem part_len (l : List UInt8) (s n : Nat) (h : s + n ≤ l.length) : ((l.drop s).take n).length = n := by rw [List.length_take, List.length_drop]; omega
/-- v owns its row in a block from lo up to hi. -/
def Held (w : World) (lo hi : Nat) (e : TypeId) (v : Value) (n : Nat) (xs : List Value) : Prop :=
 w.ownsRow lo e 1 v n xs ∧ (∀ k, v.ownBlock = some k → k < hi) ∧ hi ≤ w.heap.size
theorem held_of {w : World} {lo : Nat} {e : TypeId} {v : Value} {n : Nat} {xs : List Value} (h : w.ownsRow lo e 1 v n xs) : Held w lo w.heap.size e v n xs :=
 ⟨h, fun k hk => (h.lt k hk).2, Nat.le_refl _⟩
theorem Held.below {w w' : World} {lo hi B : Nat} {e : TypeId} {v : Value} {n : Nat} {xs : List Value} (h : Held w lo hi e v n xs) (hb : Below B w w') (hB : hi ≤ B) : Held w' lo hi e v n xs := by
 obtain ⟨⟨hl, h2⟩, hk, hs⟩ := h
 refine ⟨⟨hl, ?_⟩, hk, Nat.le_trans hs hb.size⟩
 rcases h2 with h2 | ⟨g, cap, cur, rfl, hbg, hg, hrest⟩
 ·exact .inl h2
 ·exact .inr ⟨g, cap, cur, rfl, hbg, (hb.block g (Nat.lt_of_lt_of_le (hk g rfl) hB)).trans hg, hrest⟩
theorem Held.grown {w w' : World} {lo hi : Nat} {row : Option Nat} {e : TypeId} {v : Value} {n : Nat} {xs : List Value} (h : Held w lo hi e v n xs) (hg : w.grownBy w' row) (hr : ∀ k, row = some k → k < lo ∨ hi ≤ k) : Held w' lo hi e v n xs := by
 obtain ⟨ho, hk, hs⟩ := h
 refine ⟨ho.kept hg ?_, hk, Nat.le_trans hs hg.size⟩
 cases hv : v.ownBlock with
 | none => exact .inl rfl
 | some k =>
  right; intro he
  rcases hr k he.symm with h1 | h1
  ·exact absurd (ho.lt k hv).1 (by omega)
  ·exact absurd (hk k hv) (by omega)
theorem Held.row {w : World} {lo hi : Nat} {e : TypeId} {v : Value} {n : Nat} {xs : List Value} (h : Held w lo hi e v n xs) : ∃ a cap, v = .slice a n cap ∧ RowV w a xs := own_rowV h.1
theorem Held.own {w : World} {lo hi : Nat} {e : TypeId} {v : Value} {n : Nat} {xs : List Value} (h : Held w lo hi e v n xs) : w.ownsRow lo e 1 v n xs := h.1
theorem Held.blk {w : World} {lo hi : Nat} {e : TypeId} {v : Value} {n : Nat} {xs : List Value} (h : Held w lo hi e v n xs) : ∀ k, v.ownBlock = some k → lo ≤ k ∧ k < hi := fun k hk => ⟨(h.1.lt k hk).1, h.2.1 k hk⟩
theorem Below.marked {w0 w w' : World} {B lo hi : Nat} {e : TypeId} {v : Value} {n : Nat} {xs : List Value} (hb : Below B w0 w) (hB : B ≤ w.heap.size) (h : Held w lo hi e v n xs) (hl : B ≤ lo) (hg : w.grownBy w' v.ownBlock) : Below B w0 w' :=
 hb.grown hg hB fun k hk => Nat.le_trans hl (h.blk k hk).1

theorem Held.rowV {w : World} {lo hi : Nat} {e : TypeId} {a : Option Addr} {n cap : Nat} {xs : List Value} (h : Held w lo hi e (.slice a n cap) n xs) : RowV w a xs := row_at h.1
/-- The first j values turned into f's. -/
def markV (xs : List Value) (f : Nat → Value) (j : Nat) : List Value := (List.range j).map f ++ xs.drop j
/-- A made row of zeros z whose first k places have been filled from xs. -/
def fillV (z : Value) (xs : List Value) (k : Nat) : List Value := xs.take k ++ List.replicate (xs.length - k) z
theorem stored_grown {w : World} {g j : Nat} {u : Value} : w.grownBy (w.setCell ⟨g, j, none⟩ u) (some g) := by
 refine ⟨rfl, rfl, rfl, by simp, fun k _ hk => ?_⟩
 have hk' : g ≠ k := fun e => hk (by rw [e])
 simp [World.setCell, Array.getElem?_modify, hk']
theorem World.grownBy.trans' {a b c : World} {row : Option Nat} (h : a.grownBy b row) (k : b.grownBy c row) : a.grownBy c row :=
 ⟨k.os.trans h.os, k.tape.trans h.tape, k.output.trans h.output, Nat.le_trans h.size k.size, fun i hi hr => (k.block i (Nat.lt_of_lt_of_le hi h.size) hr).trans (h.block i hi hr)⟩
theorem below_undrew {B : Nat} {w w' : World} (h : Below B w.drew w') : Below B w w' := ⟨h.os, h.tape, h.output, h.size, h.block⟩
theorem grownBy_refl (w : World) (row : Option Nat) : w.grownBy w row := ⟨rfl, rfl, rfl, Nat.le_refl _, fun _ _ _ => rfl⟩
end Go.Proofs.YtamjljhbnhdgdaaDoor

/- Numbers as bytes, the higher ones first: what both texts write and read. -/
namespace Go.Proofs.YtamjljhbnhdgdaaDoor
open Go.ChangeShapes Go.WideShapes Go.ChangeAt Go.RowKit

def nb (v j : Nat) : UInt8 := UInt8.ofNat (v / 256 ^ j % 256)
def be (v : Nat) : Nat → List UInt8
 | 0 => []
 | s + 1 => nb v s :: be v s
theorem be_len (v s : Nat) : (be v s).length = s := by induction s with | zero => rfl | succ s ih => simp [be, ih]
theorem nb_val (n k : Nat) : (n : Int) / 2 ^ (8 * k) % 256 = ((nb n k).toNat : Int) := by
 have e : (2 : Int) ^ (8 * k) = ((256 ^ k : Nat) : Int) := by rw [Int.pow_mul]; simp
 rw [e]
 unfold nb
 rw [UInt8.toNat_ofNat', ← Int.natCast_ediv]
 omega
def ofBE (l : List UInt8) : Nat := l.foldl (fun n c => n * 256 + c.toNat) 0
theorem ofBE_app (l : List UInt8) (c : UInt8) : ofBE (l ++ [c]) = ofBE l * 256 + c.toNat := by unfold ofBE; rw [List.foldl_append]; rfl
theorem ofBE_snoc (l : List UInt8) (k : Nat) (h : k < l.length) : ofBE (l.take (k + 1)) = ofBE (l.take k) * 256 + l[k].toNat := by
 rw [List.take_succ_eq_append_getElem h, ofBE_app]
theorem ofBE_lt (l : List UInt8) (k : Nat) : ofBE (l.take k) < 256 ^ k := by
 induction k with
 | zero => simp [ofBE]
 | succ k ih =>
  by_cases h : k < l.length
  ·rw [ofBE_snoc l k h, Nat.pow_succ]; have := l[k].toNat_lt; omega
  ·rw [List.take_of_length_le (by omega)]; rw [List.take_of_length_le (by omega)] at ih; rw [Nat.pow_succ]; omega
theorem or_byte (n : Nat) (c : Nat) (hn : n < 4294967296) (hc : c < 256) : bits .or .i64 ((n : Int) * 256) (c : Int) = ((n * 256 + c : Nat) : Int) := by
 have h : n <<< 8 + c = n <<< 8 ||| c := Nat.shiftLeft_add_eq_or_of_lt (by omega) n
 rw [Nat.shiftLeft_eq, show (2 : Nat) ^ 8 = 256 from rfl] at h
 show IntKind.i64.wrap ((BitVec.ofInt 64 ((n : Int) * 256) ||| BitVec.ofInt 64 (c : Int)).toNat : Int) = _
 rw [show (n : Int) * 256 = ((n * 256 : Nat) : Int) from by omega, BitVec.toNat_or, ofInt_u64 (n * 256) (by omega), ofInt_u64 c (by omega), ← h, IntKind.wrap_i64]
 omega
theorem lit_empty (w : World) (base : Nat) (t : TypeId) (hb : base ≤ w.heap.size) : (w.alloc (.cells #[] t)).ownsRow base t 1 (.slice (some ⟨w.heap.size, 0, none⟩) 0 0) ([] : List UInt8).length (B8 []) :=
 World.ownsRow_lit w #[] 0 hb (by decide) rfl

end Go.Proofs.YtamjljhbnhdgdaaDoor

/- Frames read from bytes. Plain mathematics. -/
namespace Go.Proofs.YtamjljhbnhdgdaaDoor
open Go.ChangeShapes Go.WideShapes Go.ChangeAt Go.RowKit
/-- The data's length that a frame's head tells. -/
def frN (l : List UInt8) : Nat := ofBE (l.take 3)
/-- What is wrong with the first frame: 0 nothing, 14 not whole, 8 none. -/
def frC (l : List UInt8) : Int := if l.length < 7 then 14 else if frN l < 1 ∨ 65536 < frN l then 8 else if l.length - 7 < frN l then 14 else if chk (l.take 3 ++ (l.drop 7).take (frN l)) = ((ofBE ((l.drop 3).take 4) : Nat) : Int) then 0 else 8
def frD (l : List UInt8) : List UInt8 := (l.drop 7).take (frN l)
def frT (l : List UInt8) : List UInt8 := (l.drop 7).drop (frN l)
/-- The frames, how many bytes they are, what is behind. -/
def frs : Nat → List UInt8 → List ByteArray × Nat × Int
 | 0, _ => ([], 0, 0)
 | f + 1, l => if l = [] then ([], 0, 0) else if frC l = 0 then (⟨(frD l).toArray⟩ :: (frs f (frT l)).1, 7 + frN l + (frs f (frT l)).2.1, (frs f (frT l)).2.2) else ([], 0, frC l)
theorem frC_ok {l : List UInt8} (h : frC l = 0) : 7 ≤ l.length ∧ 1 ≤ frN l ∧ frN l ≤ 65536 ∧ 7 + frN l ≤ l.length ∧ chk (l.take 3 ++ frD l) = ((ofBE ((l.drop 3).take 4) : Nat) : Int) := by
 unfold frC at h
 split at h
 ·cases h
 ·split at h
  ·cases h
  ·split at h
   ·cases h
   ·split at h
    ·rename_i h4
     exact ⟨by omega, by omega, by omega, by omega, h4⟩
    ·cases h
theorem frT_len {l : List UInt8} (h : frC l = 0) : (frT l).length + (7 + frN l) = l.length := by
 obtain ⟨h1, h2, h3, h4, _⟩ := frC_ok h
 unfold frT
 rw [List.length_drop, List.length_drop]; omega
theorem frD_len {l : List UInt8} (h : frC l = 0) : (frD l).length = frN l := by
 obtain ⟨h1, h2, h3, h4, _⟩ := frC_ok h
 unfold frD
 rw [List.length_take, List.length_drop]; omega
theorem frs_nil (f : Nat) : frs f [] = ([], 0, 0) := by cases f <;> simp [frs]
theorem frs_step {l : List UInt8} (f : Nat) (h0 : l ≠ []) (h : frC l = 0) : frs (f + 1) l = (⟨(frD l).toArray⟩ :: (frs f (frT l)).1, 7 + frN l + (frs f (frT l)).2.1, (frs f (frT l)).2.2) := by
 simp only [frs, if_neg h0, if_pos h]
theorem frs_bad {l : List UInt8} (f : Nat) (h0 : l ≠ []) (h : ¬ frC l = 0) : frs (f + 1) l = ([], 0, frC l) := by
 simp only [frs, if_neg h0, if_neg h]
theorem frs_len : ∀ (f : Nat) (l : List UInt8), (frs f l).1.length ≤ f
 | 0, l => by simp [frs]
 | f + 1, l => by
  by_cases h0 : l = []
  ·subst h0; rw [frs_nil]; simp
  ·by_cases h1 : frC l = 0
   ·rw [frs_step f h0 h1]; have := frs_len f (frT l); simp; omega
   ·rw [frs_bad f h0 h1]; simp
/-- What ReadFrames answers. -/
def rdL (l : List UInt8) : List ByteArray := if 65536 < l.length then [] else (frs l.length l).1
def rdP (l : List UInt8) : Int := if 65536 < l.length then 0 else ((frs l.length l).2.1 : Int)
def rdC (l : List UInt8) : Int := if 65536 < l.length then 2 else (frs l.length l).2.2
end Go.Proofs.YtamjljhbnhdgdaaDoor
