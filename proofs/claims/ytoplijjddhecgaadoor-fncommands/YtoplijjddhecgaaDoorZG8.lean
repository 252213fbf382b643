/- Texts put together: Spa RinU. -/
import Derived.Test.YtoplijjddhecgaaDoorZPair
import Derived.Test.YtoplijjddhecgaaDoorZRowV
import Derived.Lib.ConvBytes
/- What a call leaves alone: all but a range of blocks; rows of elements of any size kept by it. -/
namespace Go.Proofs.YtoplijjddhecgaaDoor
open Go.ChangeShapes Go.WideShapes Go.ChangeAt Go.RowKit
/-- Nothing turned but what lies from lo up to hi, and what is new. -/
structure Spared (w w' : World) (lo hi : Nat) : Prop where
  os : w'.os = w.os
  tape : w'.tape = w.tape
  output : w'.output = w.output
  size : w.heap.size ≤ w'.heap.size
  block : ∀ k, k < w.heap.size → (k < lo ∨ hi ≤ k) → w'.heap[k]? = w.heap[k]?
theorem Spared.refl (w : World) (lo hi : Nat) : Spared w w lo hi := ⟨rfl, rfl, rfl, Nat.le_refl _, fun _ _ _ => rfl⟩
theorem Spared.of_below {w w' : World} (h : Below w.heap.size w w') (lo hi : Nat) : Spared w w' lo hi := ⟨h.os, h.tape, h.output, h.size, fun k hk _ => h.block k hk⟩
theorem Spared.trans {w w' w'' : World} {lo hi : Nat} (h : Spared w w' lo hi) (h2 : Spared w' w'' lo hi) : Spared w w'' lo hi :=
  ⟨h2.os.trans h.os, h2.tape.trans h.tape, h2.output.trans h.output, Nat.le_trans h.size h2.size, fun k hk hr => (h2.block k (Nat.lt_of_lt_of_le hk h.size) hr).trans (h.block k hk hr)⟩
theorem Spared.of_grown {w w' : World} {row : Option Nat} {lo hi : Nat} (hg : w.grownBy w' row) (hr : ∀ k, row = some k → lo ≤ k ∧ k < hi) : Spared w w' lo hi :=
  ⟨hg.os, hg.tape, hg.output, hg.size, fun k hk h => hg.block k hk (fun e => by have := hr k e.symm; omega)⟩
theorem Spared.below {w w' : World} {B lo hi : Nat} (h : Spared w w' lo hi) (hB : B ≤ lo) (hs : B ≤ w.heap.size) : Below B w w' :=
  ⟨h.os, h.tape, h.output, h.size, fun k hk => h.block k (by omega) (.inl (by omega))⟩
theorem HeldZ.spared {z : Nat} {w w' : World} {lo hi lo2 hi2 : Nat} {e : TypeId} {v : Value} {n : Nat} {xs : List Value} (h : HeldZ z w lo hi e v n xs) (hs : Spared w w' lo2 hi2) (hr : hi ≤ lo2 ∨ hi2 ≤ lo) : HeldZ z w' lo hi e v n xs := by
  obtain ⟨⟨hl, h2⟩, hk, hz⟩ := h
  refine ⟨⟨hl, ?_⟩, hk, Nat.le_trans hz hs.size⟩
  rcases h2 with h2 | ⟨g, cap, cur, rfl, hbg, hg, hrest⟩
  · exact .inl h2
  · have := hk g rfl
    exact .inr ⟨g, cap, cur, rfl, hbg, (hs.block g (by omega) (by omega)).trans hg, hrest⟩
theorem heldZ_1 {w : World} {lo hi : Nat} {e : TypeId} {v : Value} {n : Nat} {xs : List Value} (h : HeldZ 1 w lo hi e v n xs) : Held w lo hi e v n xs := h
theorem held_Z {w : World} {lo hi : Nat} {e : TypeId} {v : Value} {n : Nat} {xs : List Value} (h : Held w lo hi e v n xs) : HeldZ 1 w lo hi e v n xs := h
theorem own_apart {w : World} {b b2 : Nat} {e e2 : TypeId} {z z2 : Nat} {v v2 : Value} {n n2 : Nat} {xs xs2 : List Value} (h : w.ownsRow b e z v n xs) (h2 : w.ownsRow b2 e2 z2 v2 n2 xs2) (he : e ≠ e2) : v.ownBlock = none ∨ v.ownBlock ≠ v2.ownBlock := by
  rcases h.2 with ⟨rfl, _⟩ | ⟨g, cap, cur, rfl, _, hg, _⟩
  · exact .inl rfl
  · rcases h2.2 with ⟨rfl, _⟩ | ⟨g2, cap2, cur2, rfl, _, hg2, _⟩
    · exact .inr (fun h => by cases h)
    · refine .inr (fun h => he ?_)
      simp only [Value.ownBlock, Option.some.injEq] at h
      subst h
      have := hg.symm.trans hg2
      simp only [Option.some.injEq, Obj.cells.injEq] at this
      exact this.2.1
theorem HeldZ.kept2 {z : Nat} {w w' : World} {lo hi : Nat} {row : Option Nat} {e : TypeId} {v : Value} {n : Nat} {xs : List Value} (h : HeldZ z w lo hi e v n xs) (hg : w.grownBy w' row) (hr : v.ownBlock = none ∨ v.ownBlock ≠ row) : HeldZ z w' lo hi e v n xs :=
  ⟨h.1.kept hg hr, h.2.1, Nat.le_trans h.2.2 hg.size⟩
end Go.Proofs.YtoplijjddhecgaaDoor

/- Rows that stand between two bounds; []byte of a text. -/
namespace Go.Proofs.YtoplijjddhecgaaDoor
open Go.ChangeShapes Go.WideShapes Go.ChangeAt Go.RowKit
set_option linter.unusedVariables false
theorem mk_size (l : List UInt8) : (⟨l.toArray⟩ : ByteArray).size = l.length := by simp [ByteArray.size]
/-- A row that is only read, in a block between two bounds. -/
structure RowIn (w : World) (lo hi : Nat) (a : Option Addr) (xs : List Value) : Prop where
  row : RowV w a xs
  blk : ∀ b off, a = some ⟨b, off, none⟩ → lo ≤ b ∧ b < hi
  le : hi ≤ w.heap.size
theorem RowIn.keep {w w' : World} {lo hi : Nat} {a : Option Addr} {xs : List Value} (h : RowIn w lo hi a xs) (hs : w.heap.size ≤ w'.heap.size) (hb : ∀ k, lo ≤ k → k < hi → w'.heap[k]? = w.heap[k]?) : RowIn w' lo hi a xs := by
  refine ⟨?_, h.blk, Nat.le_trans h.le hs⟩
  rcases h.row with h1 | ⟨b, off, rfl, hlt, hc⟩
  · exact .inl h1
  · obtain ⟨h1, h2⟩ := h.blk b off rfl
    exact .inr ⟨b, off, rfl, Nat.lt_of_lt_of_le hlt hs, fun i u hu => (World.cell?_of_block (hb b h1 h2)).trans (hc i u hu)⟩
theorem RowIn.below {w w' : World} {lo hi : Nat} {a : Option Addr} {xs : List Value} (h : RowIn w lo hi a xs) (hb : Below w.heap.size w w') : RowIn w' lo hi a xs :=
  h.keep hb.size (fun k _ hk => hb.block k (Nat.lt_of_lt_of_le hk h.le))
theorem RowIn.spared {w w' : World} {lo hi lo2 hi2 : Nat} {a : Option Addr} {xs : List Value} (h : RowIn w lo hi a xs) (hs : Spared w w' lo2 hi2) (hr : hi ≤ lo2 ∨ hi2 ≤ lo) : RowIn w' lo hi a xs :=
  h.keep hs.size (fun k h1 h2 => hs.block k (Nat.lt_of_lt_of_le h2 h.le) (by omega))
theorem RowIn.grown {w w' : World} {lo hi : Nat} {row : Option Nat} {a : Option Addr} {xs : List Value} (h : RowIn w lo hi a xs) (hg : w.grownBy w' row) (hr : ∀ k, row = some k → hi ≤ k ∨ k < lo) : RowIn w' lo hi a xs :=
  h.keep hg.size (fun k h1 h2 => hg.block k (Nat.lt_of_lt_of_le h2 h.le) (fun e => by have := hr k e.symm; omega))
theorem to_in (w : World) (L : List UInt8) : ∃ w' cap, (convert 9 22 (.string ⟨L.toArray⟩)).run Tryd.prog w = .ok (.slice (some ⟨w.heap.size, 0, none⟩) L.length cap) w' ∧ RowIn w' w.heap.size w'.heap.size (some ⟨w.heap.size, 0, none⟩) (B8 L) ∧ Below w.heap.size w w' := by
  have e : (⟨L.toArray⟩ : ByteArray).size = L.length := mk_size L
  refine ⟨Go.Lib.bytesWorld w 5 ⟨L.toArray⟩, _, by rw [← e]; exact Go.Lib.run_convert_string_bytes w _ _ 5 _ Tryd.underlying9 Tryd.underlying22 Tryd.underlying5, ⟨?_, ?_, Nat.le_refl _⟩, ?_⟩
  · refine .inr ⟨w.heap.size, 0, rfl, by rw [Go.Lib.bytesWorld_size]; omega, fun i u hu => ?_⟩
    have hi : i < L.length := by have := (List.getElem?_eq_some_iff.1 hu).1; rwa [B8_len] at this
    have h := Go.Lib.bytesWorld_cell w 5 ⟨L.toArray⟩ i (by rw [e]; exact hi)
    rw [Nat.zero_add, h, ← hu]
    simp [B8, hi]
  · intro b off h
    rw [Go.Lib.bytesWorld_size]
    injection h with h; injection h with h1 h2; omega
  · exact ⟨rfl, rfl, rfl, by rw [Go.Lib.bytesWorld_size]; omega, fun k hk => Go.Lib.bytesWorld_at_old w _ _ k hk⟩
end Go.Proofs.YtoplijjddhecgaaDoor
