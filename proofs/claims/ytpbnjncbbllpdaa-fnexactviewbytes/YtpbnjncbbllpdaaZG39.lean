/- Texts put together: Spa RinU. -/
import Derived.Test.YtpbnjncbbllpdaaZPair
import Derived.Test.YtpbnjncbbllpdaaZRowV
import Derived.Lib.ConvBytes
/- What a call leaves alone: all but a range of blocks; rows of elements of any size kept by it. -/
namespace Go.Proofs.Ytpbnjncbbllpdaa
open Go.ChangeShapes Go.WideShapes Go.ChangeAt Go.RowKit
/-- Nothing turned but what lies from lo up to hi, and what is new. -/
structure Spared (w w' : World) (lo hi : Nat) : Prop where
  os : w'.os = w.os
  tape : w'.tape = w.tape
  output : w'.output = w.output
  size : w.heap.size ≤ w'.heap.size
  block : ∀ k, k < w.heap.size → (k < lo ∨ hi ≤ k) → w'.heap[k]? = w.heap[k]?
theorem Spared.refl (w : World) (lo hi : Nat) : Spared w w lo hi := ⟨rfl, rfl, rfl, Nat.le_refl _, fun _ _ _ => rfl⟩
theorem Spared.trans {w w' w'' : World} {lo hi : Nat} (h : Spared w w' lo hi) (h2 : Spared w' w'' lo hi) : Spared w w'' lo hi :=
  ⟨h2.os.trans h.os, h2.tape.trans h.tape, h2.output.trans h.output, Nat.le_trans h.size h2.size, fun k hk hr => (h2.block k (Nat.lt_of_lt_of_le hk h.size) hr).trans (h.block k hk hr)⟩
theorem Spared.below {w w' : World} {B lo hi : Nat} (h : Spared w w' lo hi) (hB : B ≤ lo) (hs : B ≤ w.heap.size) : Below B w w' :=
  ⟨h.os, h.tape, h.output, h.size, fun k hk => h.block k (by omega) (.inl (by omega))⟩
end Go.Proofs.Ytpbnjncbbllpdaa

/- Rows that stand between two bounds; []byte of a text. -/
namespace Go.Proofs.Ytpbnjncbbllpdaa
open Go.ChangeShapes Go.WideShapes Go.ChangeAt Go.RowKit
set_option linter.unusedVariables false
theorem mk_size (l : List UInt8) : (⟨l.toArray⟩ : ByteArray).size = l.length := by simp [ByteArray.size]
/-- A row that is only read, in a block between two bounds. -/
structure RowIn (w : World) (lo hi : Nat) (a : Option Addr) (xs : List Value) : Prop where
  row : RowV w a xs
  blk : ∀ b off, a = some ⟨b, off, none⟩ → lo ≤ b ∧ b < hi
  le : hi ≤ w.heap.size
theorem RowIn.keep {w w' : World} {lo hi : Nat} {a : Option Addr} {xs : List Value} (h : RowIn w lo hi a xs) (hs : w.heap.size ≤ w'.heap.size) (hb : ∀ k, lo ≤ k → k < hi → w'.heap[k]? = w.heap[k]?) : RowIn w' lo hi a xs := by
  refine ⟨?_, h.blk, Nat.le_trans h.le hs⟩
  rcases h.row with h1 | ⟨b, off, rfl, hlt, hc⟩
  · exact .inl h1
  · obtain ⟨h1, h2⟩ := h.blk b off rfl
    exact .inr ⟨b, off, rfl, Nat.lt_of_lt_of_le hlt hs, fun i u hu => (World.cell?_of_block (hb b h1 h2)).trans (hc i u hu)⟩
theorem RowIn.below {w w' : World} {lo hi : Nat} {a : Option Addr} {xs : List Value} (h : RowIn w lo hi a xs) (hb : Below w.heap.size w w') : RowIn w' lo hi a xs :=
  h.keep hb.size (fun k _ hk => hb.block k (Nat.lt_of_lt_of_le hk h.le))
theorem RowIn.grown {w w' : World} {lo hi : Nat} {row : Option Nat} {a : Option Addr} {xs : List Value} (h : RowIn w lo hi a xs) (hg : w.grownBy w' row) (hr : ∀ k, row = some k → hi ≤ k ∨ k < lo) : RowIn w' lo hi a xs :=
  h.keep hg.size (fun k h1 h2 => hg.block k (Nat.lt_of_lt_of_le h2 h.le) (fun e => by have := hr k e.symm; omega))
theorem to_in (w : World) (L : List UInt8) : ∃ w' cap, (convert 9 26 (.string ⟨L.toArray⟩)).run Try.prog w = .ok (.slice (some ⟨w.heap.size, 0, none⟩) L.length cap) w' ∧ RowIn w' w.heap.size w'.heap.size (some ⟨w.heap.size, 0, none⟩) (B8 L) ∧ Below w.heap.size w w' := by
  have e : (⟨L.toArray⟩ : ByteArray).size = L.length := mk_size L
  refine ⟨Go.Lib.bytesWorld w 5 ⟨L.toArray⟩, _, by rw [← e]; exact Go.Lib.run_convert_string_bytes w _ _ 5 _ Try.underlying9 Try.underlying26 Try.underlying5, ⟨?_, ?_, Nat.le_refl _⟩, ?_⟩
  · refine .inr ⟨w.heap.size, 0, rfl, by rw [Go.Lib.bytesWorld_size]; omega, fun i u hu => ?_⟩
    have hi : i < L.length := by have := (List.getElem?_eq_some_iff.1 hu).1; rwa [B8_len] at this
    have h := Go.Lib.bytesWorld_cell w 5 ⟨L.toArray⟩ i (by rw [e]; exact hi)
    rw [Nat.zero_add, h, ← hu]
    simp [B8, hi]
  · intro b off h
    rw [Go.Lib.bytesWorld_size]
    injection h with h; injection h with h1 h2; omega
  · exact ⟨rfl, rfl, rfl, by rw [Go.Lib.bytesWorld_size]; omega, fun k hk => Go.Lib.bytesWorld_at_old w _ _ k hk⟩
end Go.Proofs.Ytpbnjncbbllpdaa
