/- Rows of records: each element is so many cells; rows in a heap, all apart. Plain mathematics. -/
import Derived.Test.YthbkcijkokaoeaaPair
import Derived.Lib.SmallJoins
namespace Go.Proofs.Ythbkcijkokaoeaa
open Go.ChangeShapes Go.WideShapes Go.ChangeAt Go.RowKit
set_option linter.unusedVariables false
section
variable {A : Type} {c : A → List Value} {z : Nat}
theorem flat_len (hz : ∀ p, (c p).length = z) (L : List A) : (L.flatMap c).length = L.length * z := by
  induction L with
  | nil => simp
  | cons p L ih => rw [List.flatMap_cons, List.length_append, ih, hz, List.length_cons, Nat.succ_mul, Nat.add_comm]
theorem flat_at (hz : ∀ p, (c p).length = z) (L : List A) (k : Nat) (h : k < L.length) (j : Nat) (hj : j < z) : (L.flatMap c)[k * z + j]? = (c L[k])[j]? := by
  induction L generalizing k with
  | nil => simp at h
  | cons p L ih =>
    rw [List.flatMap_cons]
    cases k with
    | zero => rw [Nat.zero_mul, Nat.zero_add, List.getElem?_append_left (by rw [hz]; exact hj)]; rfl
    | succ k =>
      have e : (k + 1) * z + j = z + (k * z + j) := by rw [Nat.succ_mul]; omega
      rw [e, List.getElem?_append_right (by rw [hz]; omega), hz, Nat.add_sub_cancel_left, ih k (by simpa using h)]
      rfl
/-- us in the place of what stands from o on. -/
def putA (xs : List Value) (o : Nat) (us : List Value) : List Value := xs.take o ++ us ++ xs.drop (o + us.length)
theorem putA_nil (xs : List Value) (o : Nat) : putA xs o [] = xs := by simp [putA]
theorem putA_cons (xs : List Value) (o : Nat) (u : Value) (us : List Value) (h : o < xs.length) : putA (xs.set o u) (o + 1) us = putA xs o (u :: us) := by
  unfold putA
  have e1 : (xs.set o u).take (o + 1) = xs.take o ++ [u] := by
    rw [List.take_add_one, List.take_set_of_le (Nat.le_refl _), List.getElem?_set_self h]; rfl
  have e2 : (xs.set o u).drop (o + 1 + us.length) = xs.drop (o + (u :: us).length) := by
    rw [List.drop_set_of_lt (by omega)]; congr 1; simp; omega
  rw [e1, e2]; simp
theorem putA_len (xs : List Value) (o : Nat) (us : List Value) (h : o + us.length ≤ xs.length) : (putA xs o us).length = xs.length := by
  unfold putA; simp; omega
/-- us stored one behind the other from o on. -/
def setsA (xs : List Value) : Nat → List Value → List Value
  | _, [] => xs
  | o, u :: us => setsA (xs.set o u) (o + 1) us
theorem setsA_put (xs : List Value) (o : Nat) (us : List Value) (h : o + us.length ≤ xs.length) : setsA xs o us = putA xs o us := by
  induction us generalizing xs o with
  | nil => rw [setsA, putA_nil]
  | cons u us ih =>
    rw [setsA, ih _ _ (by simp at h ⊢; omega), putA_cons _ _ _ _ (by simp at h; omega)]
theorem flat_put (hz : ∀ p, (c p).length = z) (L : List A) (k : Nat) (h : k < L.length) (p : A) : putA (L.flatMap c) (k * z) (c p) = (L.set k p).flatMap c := by
  induction L generalizing k with
  | nil => simp at h
  | cons q L ih =>
    unfold putA
    rw [hz]
    cases k with
    | zero =>
      rw [Nat.zero_mul, List.take_zero, List.set_cons_zero, List.flatMap_cons, List.flatMap_cons, Nat.zero_add, List.drop_append_of_le_length (by rw [hz]; exact Nat.le_refl _), List.drop_of_length_le (by rw [hz]; exact Nat.le_refl _)]
      simp
    | succ k =>
      have := ih k (by simpa using h)
      unfold putA at this
      rw [hz] at this
      rw [List.set_cons_succ, List.flatMap_cons, List.flatMap_cons, ← this]
      have e : (k + 1) * z = z + k * z := by rw [Nat.succ_mul]; omega
      rw [e, List.take_append, List.drop_append, hz, show z + k * z - z = k * z from by omega, show z + k * z + z - z = k * z + z from by omega, List.take_of_length_le (by rw [hz]; omega), List.drop_of_length_le (by rw [hz]; omega)]
      simp
theorem flat_app (L M : List A) : (L ++ M).flatMap c = L.flatMap c ++ M.flatMap c := by simp
end
theorem own_eq {w : World} {lo : Nat} {e : TypeId} {z : Nat} {v : Value} {n : Nat} {xs ys : List Value} (h : w.ownsRow lo e z v n xs) (he : xs = ys) : w.ownsRow lo e z v n ys := he ▸ h
/-- A row in the heap. -/
structure RD where
  t : TypeId
  z : Nat
  v : Value
  n : Nat
  xs : List Value
def RD.own (w : World) (lo : Nat) (r : RD) : Prop := w.ownsRow lo r.t r.z r.v r.n r.xs
/-- Rows that a call owns, all apart. -/
structure FOwn (w : World) (lo : Nat) (F : List RD) : Prop where
  own : ∀ r ∈ F, r.own w lo
  apart : F.Pairwise (fun r s => ∀ j, r.v.ownBlock = some j → s.v.ownBlock ≠ some j)
theorem FOwn.nil (w : World) (lo : Nat) : FOwn w lo [] := ⟨fun r h => (by cases h), List.Pairwise.nil⟩
theorem FOwn.one {w : World} {lo : Nat} {r : RD} (h : r.own w lo) : FOwn w lo [r] := ⟨fun s hs => (by have e := List.mem_singleton.1 hs; subst e; exact h), by simp⟩
theorem FOwn.below {w w' : World} {lo : Nat} {F : List RD} (h : FOwn w lo F) (hb : Below w.heap.size w w') : FOwn w' lo F :=
  ⟨fun r hr => ((heldZ_of (h.own r hr)).below hb (Nat.le_refl _)).own, h.apart⟩
theorem FOwn.low {w : World} {lo lo2 : Nat} {F : List RD} (h : FOwn w lo F) (hb : lo2 ≤ lo) : FOwn w lo2 F :=
  ⟨fun r hr => Go.Joins.ownsRow_le (h.own r hr) hb, h.apart⟩
theorem FOwn.lt {w : World} {lo : Nat} {F : List RD} (h : FOwn w lo F) : ∀ r ∈ F, ∀ j, r.v.ownBlock = some j → lo ≤ j ∧ j < w.heap.size := fun r hr j hj => (show w.ownsRow lo r.t r.z r.v r.n r.xs from h.own r hr).lt j hj
/-- Rows of before and rows that were made behind m. -/
theorem FOwn.app {w : World} {lo m : Nat} {F G : List RD} (h1 : FOwn w lo F) (h2 : FOwn w m G) (hlo : lo ≤ m) (hm : ∀ r ∈ F, ∀ j, r.v.ownBlock = some j → j < m) : FOwn w lo (F ++ G) := by
  refine ⟨fun r hr => ?_, ?_⟩
  · rcases List.mem_append.1 hr with hr | hr
    · exact h1.own r hr
    · exact Go.Joins.ownsRow_le (h2.own r hr) hlo
  · rw [List.pairwise_append]
    refine ⟨h1.apart, h2.apart, fun r hr s hs j hj e => ?_⟩
    have a := hm r hr j hj
    have b := (h2.lt s hs j e).1
    omega
theorem FOwn.left {w : World} {lo : Nat} {F G : List RD} (h : FOwn w lo (F ++ G)) : FOwn w lo F := ⟨fun r hr => h.own r (List.mem_append_left _ hr), (List.pairwise_append.1 h.apart).1⟩
theorem FOwn.right {w : World} {lo : Nat} {F G : List RD} (h : FOwn w lo (F ++ G)) : FOwn w lo G := ⟨fun r hr => h.own r (List.mem_append_right _ hr), (List.pairwise_append.1 h.apart).2.1⟩
/-- A store into a block below them all. -/
theorem FOwn.setC {w : World} {lo : Nat} {F : List RD} (h : FOwn w lo F) {a : Addr} (ha : a.block < lo) (u : Value) : FOwn (w.setCell a u) lo F :=
  ⟨fun r hr => ownsRow_setCell_below (h.own r hr) ha u, h.apart⟩
/-- A row of theirs turns, the others stand. -/
theorem FOwn.turn {w w' : World} {lo : Nat} {F G : List RD} {r s : RD} (h : FOwn w lo (F ++ r :: G)) (hg : w.grownBy w' r.v.ownBlock) (hs : s.own w' lo) (hv : s.v.ownBlock = r.v.ownBlock) : FOwn w' lo (F ++ s :: G) := by
  have hp := List.pairwise_append.1 h.apart
  have hq := List.pairwise_cons.1 hp.2.1
  have keep : ∀ q : RD, q.own w lo → (∀ j, q.v.ownBlock = some j → r.v.ownBlock ≠ some j) → q.own w' lo := fun q hq hn => by
    refine (show w.ownsRow lo q.t q.z q.v q.n q.xs from hq).kept hg ?_
    cases hb : q.v.ownBlock with
    | none => exact .inl rfl
    | some j => exact .inr fun e => hn j hb e.symm
  refine ⟨fun q hq' => ?_, ?_⟩
  · rcases List.mem_append.1 hq' with h1 | h1
    · exact keep q (h.own q (List.mem_append_left _ h1)) fun j hj e => hp.2.2 q h1 r (List.mem_cons_self ..) j hj e
    · rcases List.mem_cons.1 h1 with rfl | h1
      · exact hs
      · exact keep q (h.own q (List.mem_append_right _ (List.mem_cons_of_mem _ h1))) fun j hj e => hq.1 q h1 j e hj
  · rw [List.pairwise_append, List.pairwise_cons]
    refine ⟨hp.1, ⟨fun q h1 j hj => hq.1 q h1 j (hv ▸ hj), hq.2⟩, fun q h1 p h2 j hj => ?_⟩
    rcases List.mem_cons.1 h2 with rfl | h2
    · rw [hv]; exact hp.2.2 q h1 r (List.mem_cons_self ..) j hj
    · exact hp.2.2 q h1 p (List.mem_cons_of_mem _ h2) j hj
end Go.Proofs.Ythbkcijkokaoeaa
