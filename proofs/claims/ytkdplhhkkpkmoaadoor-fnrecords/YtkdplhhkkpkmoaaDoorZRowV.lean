/- Rows of one-cell values that a call owns or reads, kept while other rows turn. -/
import Derived.Test.YtkdplhhkkpkmoaaDoorZG0
namespace Go.Proofs.YtkdplhhkkpkmoaaDoor
open Go.ChangeShapes Go.WideShapes Go.ChangeAt Go.RowKit

/-- A slice's address a leads to the values xs (or there are none). -/
def RowV (w : World) (a : Option Addr) (xs : List Value) : Prop :=
 xs = [] ∨ ∃ b off, a = some ⟨b, off, none⟩ ∧ b < w.heap.size ∧ ∀ i u, xs[i]? = some u → w.cell? ⟨b, off + i, none⟩ = some u
theorem RowV.below {w w' : World} {a : Option Addr} {xs : List Value} (h : RowV w a xs) (hb : Below w.heap.size w w') : RowV w' a xs := by
 rcases h with h | ⟨b, off, e, hlt, hc⟩
 ·exact .inl h
 ·exact .inr ⟨b, off, e, Nat.lt_of_lt_of_le hlt hb.size, fun i u hu => (hb.cell (p := ⟨b, off + i, none⟩) hlt).trans (hc i u hu)⟩
theorem RowV.at {w : World} {a : Option Addr} {xs : List Value} (h : RowV w a xs) (hn : 0 < xs.length) :
  ∃ b off, a = some ⟨b, off, none⟩ ∧ b < w.heap.size ∧ ∀ i u, xs[i]? = some u → w.cell? ⟨b, off + i, none⟩ = some u := by
 rcases h with rfl | h
 ·simp at hn
 ·exact h
theorem rowV_8 {w : World} {a : Option Addr} {l : List UInt8} (h : RowV w a (B8 l)) : Row8 w a l := by
 rcases h with h | ⟨b, off, e, hlt, hc⟩
 ·left; have := congrArg List.length h; rw [B8_len] at this; exact List.length_eq_zero_iff.1 this
 ·exact .inr ⟨b, off, e, hlt, fun i hi => hc i _ (by simp [B8, List.getElem?_eq_getElem hi])⟩
theorem row8_V {w : World} {a : Option Addr} {l : List UInt8} (h : Row8 w a l) : RowV w a (B8 l) := by
 rcases h with rfl | ⟨b, off, e, hlt, hc⟩
 ·exact .inl rfl
 ·refine .inr ⟨b, off, e, hlt, fun i u hu => ?_⟩
  have hi : i < l.length := by have := (List.getElem?_eq_some_iff.1 hu).1; rwa [B8_len] at this
  rw [hc i hi, ← hu]; simp [B8, List.getElem?_eq_getElem hi]
theorem own_rowV {w : World} {base : Nat} {e : TypeId} {v : Value} {n : Nat} {xs : List Value} (h : w.ownsRow base e 1 v n xs) : ∃ a cap, v = .slice a n cap ∧ RowV w a xs := by
 obtain ⟨hl, h2⟩ := h
 rcases h2 with ⟨rfl, rfl⟩ | ⟨g, cap, cur, rfl, hbg, hg, hrest⟩
 ·exact ⟨none, 0, rfl, .inl (List.length_eq_zero_iff.1 (by simpa using hl))⟩
 ·refine ⟨some ⟨g, 0, none⟩, cap, rfl, ?_⟩
  have hown : w.ownsRow base e 1 (.slice (some ⟨g, 0, none⟩) n cap) n xs := ⟨hl, .inr ⟨g, cap, cur, rfl, hbg, hg, hrest⟩⟩
  refine .inr ⟨g, 0, rfl, (hown.lt g rfl).2, fun i u hu => ?_⟩
  have hi : i < xs.length := (List.getElem?_eq_some_iff.1 hu).1
  rw [Nat.zero_add, hown.cellAt i (by omega), hu]

theorem row_at {w : World} {base : Nat} {e : TypeId} {a : Option Addr} {n cap : Nat} {xs : List Value} (h : w.ownsRow base e 1 (.slice a n cap) n xs) : RowV w a xs := by
 obtain ⟨a', cap', e, h⟩ := own_rowV h
 injection e with e1; subst e1; exact h
/-- 'string(b)' where b reads as the bytes l. -/
theorem conv_row8 {P : Program} {w : World} {src dst e : TypeId} {a : Option Addr} {cap : Nat} {l : List UInt8} (hs : P.underlying src = some (.slice e)) (he : P.underlying e = some (.int .u8)) (hd : P.underlying dst = some .string)
  (h : Row8 w a l) : (convert src dst (.slice a l.length cap)).run P w = .ok (.string ⟨l.toArray⟩) w := by
 cases a with
 | none =>
  rcases h with rfl | ⟨b, off, e, _⟩
  ·exact run_convert_bytes_nil w src e hs he 0 cap dst hd
  ·cases e
 | some x =>
  refine run_convert_bytes_back w src dst e x cap l hs he hd ?_
  intro j hj
  rcases h with rfl | ⟨b, off, e, hlt, hc⟩
  ·simp at hj
  ·injection e with e; subst e
   rw [show (⟨b, off, none⟩ : Addr).add j = ⟨b, off + j, none⟩ from by unfold Addr.add; split <;> simp_all, hc j hj]
theorem row8_part {w : World} {b off : Nat} {l : List UInt8} (hb : b < w.heap.size) (hc : ∀ i (h : i < l.length), w.cell? ⟨b, off + i, none⟩ = some (.int .u8 (l[i].toNat : Int))) (s n : Nat) (h : s + n ≤ l.length) : Row8 w (some ⟨b, off + s, none⟩) ((l.drop s).take n) := by
 refine .inr ⟨b, off + s, rfl, hb, fun i hi => ?_⟩
 have hi' : i < n := by rw [List.length_take] at hi; omega
 rw [show off + s + i = off + (s + i) from by omega, hc (s + i) (by omega), List.getElem_take, List.getElem_drop]
theorem part_len (l : List UInt8) (s n : Nat) (h : s + n ≤ l.length) : ((l.drop s).take n).length = n := by rw [List.length_take, List.length_drop]; omega
/-- v owns its row in a block from lo up to hi. -/
def Held (w : World) (lo hi : Nat) (e : TypeId) (v : Value) (n : Nat) (xs : List Value) : Prop :=
 w.ownsRow lo e 1 v n xs ∧ (∀ k, v.ownBlock = some k → k < hi) ∧ hi ≤ w.heap.size
theorem held_of {w : World} {lo : Nat} {e : TypeId} {v : Value} {n : Nat} {xs : List Value} (h : w.ownsRow lo e 1 v n xs) : Held w lo w.heap.size e v n xs :=
 ⟨h, fun k hk => (h.lt k hk).2, Nat.le_refl _⟩
theorem Held.below {w w' : World} {lo hi B : Nat} {e : TypeId} {v : Value} {n : Nat} {xs : List Value} (h : Held w lo hi e v n xs) (hb : Below B w w') (hB : hi ≤ B) : Held w' lo hi e v n xs := by
 obtain ⟨⟨hl, h2⟩, hk, hs⟩ := h
 refine ⟨⟨hl, ?_⟩, hk, Nat.le_trans hs hb.size⟩
 rcases h2 with h2 | ⟨g, cap, cur, rfl, hbg, hg, hrest⟩
 ·exact .inl h2
 ·exact .inr ⟨g, cap, cur, rfl, hbg, (hb.block g (Nat.lt_of_lt_of_le (hk g rfl) hB)).trans hg, hrest⟩
theorem Held.grown {w w' : World} {lo hi : Nat} {row : Option Nat} {e : TypeId} {v : Value} {n : Nat} {xs : List Value} (h : Held w lo hi e v n xs) (hg : w.grownBy w' row) (hr : ∀ k, row = some k → k < lo ∨ hi ≤ k) : Held w' lo hi e v n xs := by
 obtain ⟨ho, hk, hs⟩ := h
 refine ⟨ho.kept hg ?_, hk, Nat.le_trans hs hg.size⟩
 cases hv : v.ownBlock with
 | none => exact .inl rfl
 | some k =>
  right; intro he
  rcases hr k he.symm with h1 | h1
  ·exact absurd (ho.lt k hv).1 (by omega)
  ·exact absurd (hk k hv) (by omega)
theorem Held.row {w : World} {lo hi : Nat} {e : TypeId} {v : Value} {n : Nat} {xs : List Value} (h : Held w lo hi e v n xs) : ∃ a cap, v = .slice a n cap ∧ RowV w a xs := own_rowV h.1
theorem Held.own {w : World} {lo hi : Nat} {e : TypeId} {v : Value} {n : Nat} {xs : List Value} (h : Held w lo hi e v n xs) : w.ownsRow lo e 1 v n xs := h.1
theorem Held.blk {w : World} {lo hi : Nat} {e : TypeId} {v : Value} {n : Nat} {xs : List Value} (h : Held w lo hi e v n xs) : ∀ k, v.ownBlock = some k → lo ≤ k ∧ k < hi := fun k hk => ⟨(h.1.lt k hk).1, h.2.1 k hk⟩
theorem Below.marked {w0 w w' : World} {B lo hi : Nat} {e : TypeId} {v : Value} {n : Nat} {xs : List Value} (hb : Below B w0 w) (hB : B ≤ w.heap.size) (h : Held w lo hi e v n xs) (hl : B ≤ lo) (hg : w.grownBy w' v.ownBlock) : Below B w0 w' :=
 hb.grown hg hB fun k hk => Nat.le_trans hl (h.blk k hk).1

/-- The first j values turned into f's. -/
def markV (xs : List Value) (f : Nat → Value) (j : Nat) : List Value := (List.range j).map f ++ xs.drop j
/-- A made row of zeros z whose first k places have been filled from xs. -/
def fillV (z : Value) (xs : List Value) (k : Nat) : List Value := xs.take k ++ List.replicate (xs.length - k) z
theorem stored_grown {w : World} {g j : Nat} {u : Value} : w.grownBy (w.setCell ⟨g, j, none⟩ u) (some g) := by
 refine ⟨rfl, rfl, rfl, by simp, fun k _ hk => ?_⟩
 have hk' : g ≠ k := fun e => hk (by rw [e])
 simp [World.setCell, Array.getElem?_modify, hk']
theorem World.grownBy.trans' {a b c : World} {row : Option Nat} (h : a.grownBy b row) (k : b.grownBy c row) : a.grownBy c row :=
 ⟨k.os.trans h.os, k.tape.trans h.tape, k.output.trans h.output, Nat.le_trans h.size k.size, fun i hi hr => (k.block i (Nat.lt_of_lt_of_le hi h.size) hr).trans (h.block i hi hr)⟩
theorem below_undrew {B : Nat} {w w' : World} (h : Below B w.drew w') : Below B w w' := ⟨h.os, h.tape, h.output, h.size, h.block⟩
theorem grownBy_refl (w : World) (row : Option Nat) : w.grownBy w row := ⟨rfl, rfl, rfl, Nat.le_refl _, fun _ _ _ => rfl⟩
end Go.Proofs.YtkdplhhkkpkmoaaDoor
