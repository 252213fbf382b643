/- Texts put together: Pair FlM InM EntM SteM NdM NfM MgM IntS. -/
import Derived.Test.YtfogppnijdjakaaGreatDoorZG0
import Derived.Lib.SmallJoins
/- Rows of pairs of integers: an element is two cells. Rows of elements of any size that a call owns, kept while other rows turn. -/
namespace Go.Proofs.YtfogppnijdjakaaGreatDoor
open Go.ChangeShapes Go.WideShapes Go.ChangeAt Go.RowKit
def cP (l : List (Int × Int)) : List Value := l.flatMap fun c => [.int .i64 c.1, .int .i64 c.2]
/-- v owns its row of elements of z cells each in a block from lo up to hi. -/
def HeldZ (z : Nat) (w : World) (lo hi : Nat) (e : TypeId) (v : Value) (n : Nat) (xs : List Value) : Prop :=
 w.ownsRow lo e z v n xs ∧ (∀ k, v.ownBlock = some k → k < hi) ∧ hi ≤ w.heap.size
theorem heldZ_of {z : Nat} {w : World} {lo : Nat} {e : TypeId} {v : Value} {n : Nat} {xs : List Value} (h : w.ownsRow lo e z v n xs) : HeldZ z w lo w.heap.size e v n xs :=
 ⟨h, fun k hk => (h.lt k hk).2, Nat.le_refl _⟩
theorem HeldZ.below {z : Nat} {w w' : World} {lo hi B : Nat} {e : TypeId} {v : Value} {n : Nat} {xs : List Value} (h : HeldZ z w lo hi e v n xs) (hb : Below B w w') (hB : hi ≤ B) : HeldZ z w' lo hi e v n xs := by
 obtain ⟨⟨hl, h2⟩, hk, hs⟩ := h
 refine ⟨⟨hl, ?_⟩, hk, Nat.le_trans hs hb.size⟩
 rcases h2 with h2 | ⟨g, cap, cur, rfl, hbg, hg, hrest⟩
 ·exact .inl h2
 ·exact .inr ⟨g, cap, cur, rfl, hbg, (hb.block g (Nat.lt_of_lt_of_le (hk g rfl) hB)).trans hg, hrest⟩
theorem HeldZ.grown {z : Nat} {w w' : World} {lo hi : Nat} {row : Option Nat} {e : TypeId} {v : Value} {n : Nat} {xs : List Value} (h : HeldZ z w lo hi e v n xs) (hg : w.grownBy w' row) (hr : ∀ k, row = some k → k < lo ∨ hi ≤ k) : HeldZ z w' lo hi e v n xs := by
 obtain ⟨ho, hk, hs⟩ := h
 refine ⟨ho.kept hg ?_, hk, Nat.le_trans hs hg.size⟩
 cases hv : v.ownBlock with
 | none => exact .inl rfl
 | some k =>
  right; intro he
  rcases hr k he.symm with h1 | h1
  ·exact absurd (ho.lt k hv).1 (by omega)
  ·exact absurd (hk k hv) (by omega)
theorem HeldZ.own {z : Nat} {w : World} {lo hi : Nat} {e : TypeId} {v : Value} {n : Nat} {xs : List Value} (h : HeldZ z w lo hi e v n xs) : w.ownsRow lo e z v n xs := h.1
theorem HeldZ.le {z : Nat} {w : World} {lo hi : Nat} {e : TypeId} {v : Value} {n : Nat} {xs : List Value} (h : HeldZ z w lo hi e v n xs) : hi ≤ w.heap.size := h.2.2
theorem HeldZ.blk {z : Nat} {w : World} {lo hi : Nat} {e : TypeId} {v : Value} {n : Nat} {xs : List Value} (h : HeldZ z w lo hi e v n xs) : ∀ k, v.ownBlock = some k → lo ≤ k ∧ k < hi := fun k hk => ⟨(h.1.lt k hk).1, h.2.1 k hk⟩
theorem ownZ_rowV {z : Nat} {w : World} {base : Nat} {e : TypeId} {v : Value} {n : Nat} {xs : List Value} (h : w.ownsRow base e z v n xs) : ∃ a cap, v = .slice a n cap ∧ RowV w a xs := by
 obtain ⟨hl, h2⟩ := h
 rcases h2 with ⟨rfl, rfl⟩ | ⟨g, cap, cur, rfl, hbg, hg, hrest⟩
 ·exact ⟨none, 0, rfl, .inl (List.length_eq_zero_iff.1 (by simpa using hl))⟩
 ·refine ⟨some ⟨g, 0, none⟩, cap, rfl, ?_⟩
  have hown : w.ownsRow base e z (.slice (some ⟨g, 0, none⟩) n cap) n xs := ⟨hl, .inr ⟨g, cap, cur, rfl, hbg, hg, hrest⟩⟩
  refine .inr ⟨g, 0, rfl, (hown.lt g rfl).2, fun i u hu => ?_⟩
  have hi : i < xs.length := (List.getElem?_eq_some_iff.1 hu).1
  rw [Nat.zero_add, hown.cellAt i (by omega), hu]
theorem rowZ_at {z : Nat} {w : World} {base : Nat} {e : TypeId} {a : Option Addr} {n cap : Nat} {xs : List Value} (h : w.ownsRow base e z (.slice a n cap) n xs) : RowV w a xs := by
 obtain ⟨a', cap', e, h⟩ := ownZ_rowV h
 injection e with e1; subst e1; exact h
theorem HeldZ.rowV {z : Nat} {w : World} {lo hi : Nat} {e : TypeId} {a : Option Addr} {n cap : Nat} {xs : List Value} (h : HeldZ z w lo hi e (.slice a n cap) n xs) : RowV w a xs := rowZ_at h.1
theorem HeldZ.row {z : Nat} {w : World} {lo hi : Nat} {e : TypeId} {v : Value} {n : Nat} {xs : List Value} (h : HeldZ z w lo hi e v n xs) : ∃ a cap, v = .slice a n cap ∧ RowV w a xs := ownZ_rowV h.1
/-- The pairs from place s on, j of them, turned into blanks. -/
def blk (l : List (Int × Int)) (s : Nat) : Nat → List (Int × Int)
 | 0 => l
 | j + 1 => (blk l s j).set (s + j) (32, 0)
end Go.Proofs.YtfogppnijdjakaaGreatDoor

/- Rows of records: each element is so many cells; rows in a heap, all apart. Plain mathematics. -/
namespace Go.Proofs.YtfogppnijdjakaaGreatDoor
open Go.ChangeShapes Go.WideShapes Go.ChangeAt Go.RowKit
set_option linter.unusedVariables false
section
variable {A : Type} {c : A → List Value} {z : Nat}
theorem flat_len (hz : ∀ p, (c p).length = z) (L : List A) : (L.flatMap c).length = L.length * z := by
 induction L with
 | nil => simp
 | cons p L ih => rw [List.flatMap_cons, List.length_append, ih, hz, List.length_cons, Nat.succ_mul, Nat.add_comm]
theorem flat_at (hz : ∀ p, (c p).length = z) (L : List A) (k : Nat) (h : k < L.length) (j : Nat) (hj : j < z) : (L.flatMap c)[k * z + j]? = (c L[k])[j]? := by
 induction L generalizing k with
 | nil => simp at h
 | cons p L ih =>
  rw [List.flatMap_cons]
  cases k with
  | zero => rw [Nat.zero_mul, Nat.zero_add, List.getElem?_append_left (by rw [hz]; exact hj)]; rfl
  | succ k =>
   have e : (k + 1) * z + j = z + (k * z + j) := by rw [Nat.succ_mul]; omega
   rw [e, List.getElem?_append_right (by rw [hz]; omega), hz, Nat.add_sub_cancel_left, ih k (by simpa using h)]
   rfl
/-- us in the place of what stands from o on. -/
def putA (xs : List Value) (o : Nat) (us : List Value) : List Value := xs.take o ++ us ++ xs.drop (o + us.length)
theorem putA_nil (xs : List Value) (o : Nat) : putA xs o [] = xs := by simp [putA]
theorem putA_cons (xs : List Value) (o : Nat) (u : Value) (us : List Value) (h : o < xs.length) : putA (xs.set o u) (o + 1) us = putA xs o (u :: us) := by
 unfold putA
 have e1 : (xs.set o u).take (o + 1) = xs.take o ++ [u] := by
  rw [List.take_add_one, List.take_set_of_le (Nat.le_refl _), List.getElem?_set_self h]; rfl
 have e2 : (xs.set o u).drop (o + 1 + us.length) = xs.drop (o + (u :: us).length) := by
  rw [List.drop_set_of_lt (by omega)]; congr 1; simp; omega
 rw [e1, e2]; simp
/-- us stored one behind the other from o on. -/
def setsA (xs : List Value) : Nat → List Value → List Value
 | _, [] => xs
 | o, u :: us => setsA (xs.set o u) (o + 1) us
theorem setsA_put (xs : List Value) (o : Nat) (us : List Value) (h : o + us.length ≤ xs.length) : setsA xs o us = putA xs o us := by
 induction us generalizing xs o with
 | nil => rw [setsA, putA_nil]
 | cons u us ih =>
  rw [setsA, ih _ _ (by simp at h ⊢; omega), putA_cons _ _ _ _ (by simp at h; omega)]
theorem flat_put (hz : ∀ p, (c p).length = z) (L : List A) (k : Nat) (h : k < L.length) (p : A) : putA (L.flatMap c) (k * z) (c p) = (L.set k p).flatMap c := by
 induction L generalizing k with
 | nil => simp at h
 | cons q L ih =>
  unfold putA
  rw [hz]
  cases k with
  | zero =>
   rw [Nat.zero_mul, List.take_zero, List.set_cons_zero, List.flatMap_cons, List.flatMap_cons, Nat.zero_add, List.drop_append_of_le_length (by rw [hz]; exact Nat.le_refl _), List.drop_of_length_le (by rw [hz]; exact Nat.le_refl _)]
   simp
  | succ k =>
   have := ih k (by simpa using h)
   unfold putA at this
   rw [hz] at this
   rw [List.set_cons_succ, List.flatMap_cons, List.flatMap_cons, ← this]
   have e : (k + 1) * z = z + k * z := by rw [Nat.succ_mul]; omega
   rw [e, List.take_append, List.drop_append, hz, show z + k * z - z = k * z from by omega, show z + k * z + z - z = k * z + z from by omega, List.take_of_length_le (by rw [hz]; omega), List.drop_of_length_le (by rw [hz]; omega)]
   simp
end
theorem own_eq {w : World} {lo : Nat} {e : TypeId} {z : Nat} {v : Value} {n : Nat} {xs ys : List Value} (h : w.ownsRow lo e z v n xs) (he : xs = ys) : w.ownsRow lo e z v n ys := he ▸ h
/-- A row in the heap. -/
structure RD where
 t : TypeId
 z : Nat
 v : Value
 n : Nat
 xs : List Value
def RD.own (w : World) (lo : Nat) (r : RD) : Prop := w.ownsRow lo r.t r.z r.v r.n r.xs
/-- Rows that a call owns, all apart. -/
structure FOwn (w : World) (lo : Nat) (F : List RD) : Prop where
 own : ∀ r ∈ F, r.own w lo
 apart : F.Pairwise (fun r s => ∀ j, r.v.ownBlock = some j → s.v.ownBlock ≠ some j)
theorem FOwn.nil (w : World) (lo : Nat) : FOwn w lo [] := ⟨fun r h => (by cases h), List.Pairwise.nil⟩
theorem FOwn.one {w : World} {lo : Nat} {r : RD} (h : r.own w lo) : FOwn w lo [r] := ⟨fun s hs => (by have e := List.mem_singleton.1 hs; subst e; exact h), by simp⟩
theorem FOwn.below {w w' : World} {lo : Nat} {F : List RD} (h : FOwn w lo F) (hb : Below w.heap.size w w') : FOwn w' lo F :=
 ⟨fun r hr => ((heldZ_of (h.own r hr)).below hb (Nat.le_refl _)).own, h.apart⟩
theorem FOwn.low {w : World} {lo lo2 : Nat} {F : List RD} (h : FOwn w lo F) (hb : lo2 ≤ lo) : FOwn w lo2 F :=
 ⟨fun r hr => Go.Joins.ownsRow_le (h.own r hr) hb, h.apart⟩
theorem FOwn.lt {w : World} {lo : Nat} {F : List RD} (h : FOwn w lo F) : ∀ r ∈ F, ∀ j, r.v.ownBlock = some j → lo ≤ j ∧ j < w.heap.size := fun r hr j hj => (show w.ownsRow lo r.t r.z r.v r.n r.xs from h.own r hr).lt j hj
/-- Rows of before and rows that were made behind m. -/
theorem FOwn.app {w : World} {lo m : Nat} {F G : List RD} (h1 : FOwn w lo F) (h2 : FOwn w m G) (hlo : lo ≤ m) (hm : ∀ r ∈ F, ∀ j, r.v.ownBlock = some j → j < m) : FOwn w lo (F ++ G) := by
 refine ⟨fun r hr => ?_, ?_⟩
 ·rcases List.mem_append.1 hr with hr | hr
  ·exact h1.own r hr
  ·exact Go.Joins.ownsRow_le (h2.own r hr) hlo
 ·rw [List.pairwise_append]
  refine ⟨h1.apart, h2.apart, fun r hr s hs j hj e => ?_⟩
  have a := hm r hr j hj
  have b := (h2.lt s hs j e).1
  omega
theorem FOwn.left {w : World} {lo : Nat} {F G : List RD} (h : FOwn w lo (F ++ G)) : FOwn w lo F := ⟨fun r hr => h.own r (List.mem_append_left _ hr), (List.pairwise_append.1 h.apart).1⟩
theorem FOwn.right {w : World} {lo : Nat} {F G : List RD} (h : FOwn w lo (F ++ G)) : FOwn w lo G := ⟨fun r hr => h.own r (List.mem_append_right _ hr), (List.pairwise_append.1 h.apart).2.1⟩
/-- A store into a block below them all. -/
theorem FOwn.setC {w : World} {lo : Nat} {F : List RD} (h : FOwn w lo F) {a : Addr} (ha : a.block < lo) (u : Value) : FOwn (w.setCell a u) lo F :=
 ⟨fun r hr => ownsRow_setCell_below (h.own r hr) ha u, h.apart⟩
/-- A row of theirs turns, the others stand. -/
theorem FOwn.turn {w w' : World} {lo : Nat} {F G : List RD} {r s : RD} (h : FOwn w lo (F ++ r :: G)) (hg : w.grownBy w' r.v.ownBlock) (hs : s.own w' lo) (hv : s.v.ownBlock = r.v.ownBlock) : FOwn w' lo (F ++ s :: G) := by
 have hp := List.pairwise_append.1 h.apart
 have hq := List.pairwise_cons.1 hp.2.1
 have keep : ∀ q : RD, q.own w lo → (∀ j, q.v.ownBlock = some j → r.v.ownBlock ≠ some j) → q.own w' lo := fun q hq hn => by
  refine (show w.ownsRow lo q.t q.z q.v q.n q.xs from hq).kept hg ?_
  cases hb : q.v.ownBlock with
  | none => exact .inl rfl
  | some j => exact .inr fun e => hn j hb e.symm
 refine ⟨fun q hq' => ?_, ?_⟩
 ·rcases List.mem_append.1 hq' with h1 | h1
  ·exact keep q (h.own q (List.mem_append_left _ h1)) fun j hj e => hp.2.2 q h1 r (List.mem_cons_self ..) j hj e
  ·rcases List.mem_cons.1 h1 with rfl | h1
   ·exact hs
   ·exact keep q (h.own q (List.mem_append_right _ (List.mem_cons_of_mem _ h1))) fun j hj e => hq.1 q h1 j e hj
 ·rw [List.pairwise_append, List.pairwise_cons]
  refine ⟨hp.1, ⟨fun q h1 j hj => hq.1 q h1 j (hv ▸ hj), hq.2⟩, fun q h1 p h2 j hj => ?_⟩
  rcases List.mem_cons.1 h2 with rfl | h2
  ·rw [hv]; exact hp.2.2 q h1 r (List.mem_cons_self ..) j hj
  ·exact hp.2.2 q h1 p (List.mem_cons_of_mem _ h2) j hj
end Go.Proofs.YtfogppnijdjakaaGreatDoor

/- Numbers within bounds, texts of bytes within bounds, runes. Plain mathematics. -/
namespace Go.Proofs.YtfogppnijdjakaaGreatDoor
open Go.ChangeShapes Go.WideShapes Go.ChangeAt Go.RowKit
theorem b_true {p : Prop} [Decidable p] (h : p) : true = decide p := (decide_eq_true h).symm
theorem b_false {p : Prop} [Decidable p] (h : ¬ p) : false = decide p := (decide_eq_false h).symm
def inB (n a b : Int) : Bool := decide (a ≤ n ∧ n ≤ b)
theorem in_yes {n a b : Int} (h : a ≤ n ∧ n ≤ b) : inB n a b = true := decide_eq_true h
theorem in_no {n a b : Int} (h : ¬ (a ≤ n ∧ n ≤ b)) : inB n a b = false := decide_eq_false h
def byteIn (c : UInt8) : Bool := inB (c.toNat : Int) 32 126
def allText (t : List UInt8) : Bool := t.all byteIn
def titleB (t : List UInt8) : Bool := decide (t.length ≤ 40) && allText t
def runeB (n : Int) : Bool := decide (32 ≤ n ∧ n ≤ 1114111 ∧ n ≠ 127 ∧ ¬ (55296 ≤ n ∧ n ≤ 57343))
end Go.Proofs.YtfogppnijdjakaaGreatDoor

/- Rows of entries: a number and a text, two cells each. -/
namespace Go.Proofs.YtfogppnijdjakaaGreatDoor
open Go.ChangeShapes Go.WideShapes Go.ChangeAt Go.RowKit
def cE (l : List (Int × ByteArray)) : List Value := l.flatMap fun c => [.int .i64 c.1, .string c.2]
theorem cE_cons (c : Int × ByteArray) (l : List (Int × ByteArray)) : cE (c :: l) = .int .i64 c.1 :: .string c.2 :: cE l := rfl
theorem cE_len (l : List (Int × ByteArray)) : (cE l).length = l.length * 2 := by
 induction l with
 | nil => rfl
 | cons c l ih => rw [cE_cons]; simp [ih]; omega
theorem cE_at (l : List (Int × ByteArray)) : ∀ (k : Nat) (h : k < l.length), (cE l)[k * 2]? = some (.int .i64 l[k].1) ∧ (cE l)[k * 2 + 1]? = some (.string l[k].2) := by
 induction l with
 | nil => intro k h; simp at h
 | cons c l ih =>
  intro k h
  cases k with
  | zero => exact ⟨rfl, rfl⟩
  | succ k =>
   have := ih k (by simpa using h)
   rw [cE_cons, show (k + 1) * 2 = k * 2 + 1 + 1 from by omega]
   simpa using this
theorem cE_app (l m : List (Int × ByteArray)) : cE (l ++ m) = cE l ++ cE m := by simp [cE]
theorem cE_one (l : List (Int × ByteArray)) : ∀ u ∈ cE l, u.oneCell' = true := by
 intro u hu; simp [cE] at hu; obtain ⟨a, b, _, rfl | rfl⟩ := hu <;> rfl
theorem cE_set (l : List (Int × ByteArray)) : ∀ (k : Nat) (x : Int) (y : ByteArray), ((cE l).set (k * 2) (.int .i64 x)).set (k * 2 + 1) (.string y) = cE (l.set k (x, y)) := by
 induction l with
 | nil => intro k x y; simp [cE]
 | cons c l ih =>
  intro k x y
  cases k with
  | zero => rfl
  | succ k =>
   have := ih k x y
   rw [List.set_cons_succ, cE_cons, cE_cons, show (k + 1) * 2 = k * 2 + 1 + 1 from by omega, List.set_cons_succ, List.set_cons_succ, List.set_cons_succ, List.set_cons_succ, this]
theorem cE_take (l : List (Int × ByteArray)) (k : Nat) : cE (l.take k) = (cE l).take (k * 2) := by
 induction l generalizing k with
 | nil => simp [cE]
 | cons c l ih =>
  cases k with
  | zero => simp [cE]
  | succ k => rw [List.take_succ_cons, cE_cons, cE_cons, ih, show (k + 1) * 2 = k * 2 + 1 + 1 from by omega, List.take_succ_cons, List.take_succ_cons]
theorem made_ent (n : Nat) : (madeCells #[.int .i64 0, .string ⟨#[]⟩] (n * 2)).toList = cE (List.replicate n (0, ⟨#[]⟩)) := by
 apply List.ext_getElem?
 intro j
 by_cases hj : j < n * 2
 ·obtain ⟨h0, h1⟩ := cE_at (List.replicate n ((0 : Int), (⟨#[]⟩ : ByteArray))) (j / 2) (by simp; omega)
  rw [List.getElem_replicate] at h0 h1
  rcases Nat.mod_two_eq_zero_or_one j with h | h
  ·rw [show j / 2 * 2 = j from by omega] at h0
   rw [h0]; simp [madeCells, hj, h]
  ·rw [show j / 2 * 2 + 1 = j from by omega] at h1
   rw [h1]; simp [madeCells, hj, h]
 ·rw [List.getElem?_eq_none (by simp [madeCells]; omega), List.getElem?_eq_none (by rw [cE_len]; simp; omega)]
/-- The first k entries, the others still nought. -/
def fillE (l : List (Int × ByteArray)) (k : Nat) : List (Int × ByteArray) := l.take k ++ List.replicate (l.length - k) (0, ⟨#[]⟩)
theorem fillE_len (l : List (Int × ByteArray)) (k : Nat) (h : k ≤ l.length) : (fillE l k).length = l.length := by simp [fillE]; omega
theorem fillE_zero (l : List (Int × ByteArray)) : fillE l 0 = List.replicate l.length (0, ⟨#[]⟩) := by simp [fillE]
theorem fillE_all (l : List (Int × ByteArray)) (k : Nat) (h : l.length ≤ k) : fillE l k = l := by
 unfold fillE; rw [List.take_of_length_le h, show l.length - k = 0 from by omega]; simp
theorem fillE_at (l : List (Int × ByteArray)) (k : Nat) (h : k < l.length) : (fillE l k)[k]'(by rw [fillE_len l k (by omega)]; exact h) = (0, ⟨#[]⟩) := by
 have e1 : (l.take k).length = k := by rw [List.length_take]; omega
 have : (fillE l k)[k]? = some (0, ⟨#[]⟩) := by
  unfold fillE
  rw [List.getElem?_append_right (by omega), e1, List.getElem?_replicate, if_pos (by omega)]
 exact (List.getElem?_eq_some_iff.1 this).2
theorem fillE_set (l : List (Int × ByteArray)) (k : Nat) (h : k < l.length) : (fillE l k).set k (l[k].1, l[k].2) = fillE l (k + 1) := by
 have e1 : (l.take k).length = k := by rw [List.length_take]; omega
 unfold fillE
 rw [List.set_append_right _ _ (by omega), e1, Nat.sub_self, show l.length - k = (l.length - (k + 1)) + 1 from by omega, List.replicate_succ, List.set_cons_zero, show l.take (k + 1) = l.take k ++ [l[k]] from by rw [List.take_add_one, List.getElem?_eq_getElem h]; rfl, List.append_assoc]
 rfl
theorem row_ent {w : World} {b off : Nat} {l : List (Int × ByteArray)} (hc : ∀ i u, (cE l)[i]? = some u → w.cell? ⟨b, off + i, none⟩ = some u) (k : Nat) (h : k < l.length) :
  w.cell? ⟨b, off + k * 2, none⟩ = some (.int .i64 l[k].1) ∧ w.cell? ⟨b, off + k * 2 + 1, none⟩ = some (.string l[k].2) :=
 ⟨hc _ _ (cE_at l k h).1, hc _ _ (cE_at l k h).2⟩
end Go.Proofs.YtfogppnijdjakaaGreatDoor

/- Which states are right. Plain mathematics. -/
namespace Go.Proofs.YtfogppnijdjakaaGreatDoor
open Go.ChangeShapes Go.WideShapes Go.ChangeAt Go.RowKit
set_option linter.unusedVariables false
abbrev Ent := Int × ByteArray
def entB (p T : Int) (e : Ent) : Bool := inB e.1 p T && decide (e.2.size ≤ 400)
def logB (T : Int) : Int → List Ent → Bool
 | _, [] => true
 | p, e :: l => entB p T e && logB T e.1 l
def stateB (tm vt : Int) (l : List Ent) : Bool := inB tm 0 1000 && inB vt (-1) 4 && decide (l.length ≤ 60) && logB tm 1 l
theorem logB_step (T p : Int) (l : List Ent) (k : Nat) (h : k < l.length) : logB T p (l.drop k) = (entB p T l[k] && logB T l[k].1 (l.drop (k + 1))) := by
 rw [List.drop_eq_getElem_cons h]; rfl
theorem logB_end (T p : Int) (l : List Ent) (k : Nat) (h : l.length ≤ k) : logB T p (l.drop k) = true := by
 rw [List.drop_eq_nil_of_le h]; rfl
theorem st1 {tm vt : Int} {l : List Ent} (h : inB tm 0 1000 = false) : stateB tm vt l = false := by unfold stateB; rw [h]; rfl
theorem st2 {tm vt : Int} {l : List Ent} (h : inB vt (-1) 4 = false) : stateB tm vt l = false := by unfold stateB; rw [h]; simp
theorem st3 {tm vt : Int} {l : List Ent} (h : ¬ l.length ≤ 60) : stateB tm vt l = false := by unfold stateB; rw [decide_eq_false h]; simp
theorem st4 {tm vt : Int} {l : List Ent} (h1 : inB tm 0 1000 = true) (h2 : inB vt (-1) 4 = true) (h3 : l.length ≤ 60) : stateB tm vt l = logB tm 1 l := by unfold stateB; rw [h1, h2, decide_eq_true h3]; rfl
theorem state_parts {tm vt : Int} {l : List Ent} (h : stateB tm vt l = true) : (0 ≤ tm ∧ tm ≤ 1000) ∧ (-1 ≤ vt ∧ vt ≤ 4) ∧ l.length ≤ 60 ∧ logB tm 1 l = true := by
 unfold stateB inB at h; simp at h; exact ⟨h.1.1.1, h.1.1.2, h.1.2, h.2⟩
/-- The term that an entry at place k may not be below. -/
def prevT (l : List Ent) (k : Nat) : Int := if h : k - 1 < l.length ∧ 0 < k then l[k - 1].1 else 1
theorem prevT_zero (l : List Ent) : prevT l 0 = 1 := by unfold prevT; rw [dif_neg (by omega)]
theorem prevT_succ (l : List Ent) (k : Nat) (h : k < l.length) : prevT l (k + 1) = l[k].1 := by unfold prevT; rw [dif_pos ⟨by simpa using h, by omega⟩]; rfl
end Go.Proofs.YtfogppnijdjakaaGreatDoor

/- Which nodes are right. Plain mathematics. -/
namespace Go.Proofs.YtfogppnijdjakaaGreatDoor
open Go.ChangeShapes Go.WideShapes Go.ChangeAt Go.RowKit
set_option linter.unusedVariables false
theorem bdic (b : Bool) : b = false ∨ b = true := by cases b <;> simp
/-- Votes rise, each from q on. -/
def upB (nd : Int) : Int → List Int → Bool
 | _, [] => true
 | q, x :: l => inB x q (nd - 1) && upB nd (x + 1) l
/-- Places of each node. -/
def plB (n : Int) : List Int → List Int → Bool
 | x :: lx, g :: lg => inB x 1 (n + 1) && inB g 0 (x - 1) && plB n lx lg
 | _, _ => true
def roleB (ro : Int) (up : Bool) : Bool := inB ro 0 2 && (up || decide (ro = 0))
def placesB (nd : Int) (n : Int) (lx lg : List Int) : Bool := decide ((lx.length : Int) = nd) && decide ((lg.length : Int) = nd) && plB n lx lg
def nodeB (id nd tm vt ro cm el wt : Int) (up : Bool) (l : List Ent) (lv lx lg : List Int) : Bool :=
 inB nd 1 5 && inB id 0 (nd - 1) && decide (vt < nd) && stateB tm vt l && roleB ro up && inB cm 0 (l.length : Int) && inB el 0 1000 && inB wt 5 100 && upB nd 0 lv && placesB nd (l.length : Int) lx lg
theorem upB_step (nd q : Int) (l : List Int) (k : Nat) (h : k < l.length) : upB nd q (l.drop k) = (inB l[k] q (nd - 1) && upB nd (l[k] + 1) (l.drop (k + 1))) := by
 rw [List.drop_eq_getElem_cons h]; rfl
theorem upB_end (nd q : Int) (l : List Int) (k : Nat) (h : l.length ≤ k) : upB nd q (l.drop k) = true := by
 rw [List.drop_eq_nil_of_le h]; rfl
theorem plB_step (n : Int) (lx lg : List Int) (k : Nat) (h : k < lx.length) (h2 : k < lg.length) : plB n (lx.drop k) (lg.drop k) = (inB lx[k] 1 (n + 1) && inB lg[k] 0 (lx[k] - 1) && plB n (lx.drop (k + 1)) (lg.drop (k + 1))) := by
 rw [List.drop_eq_getElem_cons h, List.drop_eq_getElem_cons h2]; rfl
theorem plB_end (n : Int) (lx lg : List Int) (k : Nat) (h : lx.length ≤ k) : plB n (lx.drop k) (lg.drop k) = true := by
 rw [List.drop_eq_nil_of_le h]; rfl
/-- The least that a vote at place k may be. -/
def prevV (l : List Int) (k : Nat) : Int := if h : k - 1 < l.length ∧ 0 < k then l[k - 1] + 1 else 0
theorem prevV_zero (l : List Int) : prevV l 0 = 0 := by unfold prevV; rw [dif_neg (by omega)]
theorem prevV_succ (l : List Int) (k : Nat) (h : k < l.length) : prevV l (k + 1) = l[k] + 1 := by unfold prevV; rw [dif_pos ⟨by simpa using h, by omega⟩]; rfl
end Go.Proofs.YtfogppnijdjakaaGreatDoor

/- A node's fields as one record. -/
namespace Go.Proofs.YtfogppnijdjakaaGreatDoor
open Go.ChangeShapes Go.WideShapes Go.ChangeAt Go.RowKit
set_option linter.unusedVariables false
structure Nf where
 id : Int
 nd : Int
 tm : Int
 vt : Int
 ro : Int
 up : Bool
 l : List Ent
 cm : Int
 el : Int
 wt : Int
 lv : List Int
 lx : List Int
 lg : List Int
def nfZ : Nf := ⟨0, 0, 0, 0, 0, false, [], 0, 0, 0, [], [], []⟩
def nfB (N : Nf) : Bool := nodeB N.id N.nd N.tm N.vt N.ro N.cm N.el N.wt N.up N.l N.lv N.lx N.lg
end Go.Proofs.YtfogppnijdjakaaGreatDoor

/- Rows of messages, each with its entries in a row of its own: how they are read. -/
namespace Go.Proofs.YtfogppnijdjakaaGreatDoor
open Go.ChangeShapes Go.WideShapes Go.ChangeAt Go.RowKit
set_option linter.unusedVariables false
structure Mg where
 kd : Int
 fr : Int
 dst : Int
 tm : Int
 ix : Int
 lt : Int
 cm : Int
 ok : Bool
 es : List Ent
/-- A message and where its entries lie. -/
abbrev MgA := Mg × Option Addr × Nat
def sl (p : MgA) : Value := .slice p.2.1 p.1.es.length p.2.2
def cM (p : MgA) : List Value := [.int .i64 p.1.kd, .int .i64 p.1.fr, .int .i64 p.1.dst, .int .i64 p.1.tm, .int .i64 p.1.ix, .int .i64 p.1.lt, .int .i64 p.1.cm, .bool p.1.ok, sl p]
def cMs (L : List MgA) : List Value := L.flatMap cM
theorem cMs_len (L : List MgA) : (cMs L).length = L.length * 9 := by
 induction L with
 | nil => rfl
 | cons p L ih => show (cM p ++ cMs L).length = _; rw [List.length_append, ih]; simp [cM]; omega
/-- A row of messages that can be read. -/
structure MRow (w : World) (v : Value) (L : List MgA) : Prop where
 row : ∃ a cap, v = .slice a L.length cap ∧ RowV w a (cMs L)
 ent : ∀ p ∈ L, RowV w p.2.1 (cE p.1.es)
theorem MRow.below {w w' : World} {v : Value} {L : List MgA} (h : MRow w v L) (hb : Below w.heap.size w w') : MRow w' v L := by
 obtain ⟨⟨a, cap, e, hr⟩, he⟩ := h
 exact ⟨⟨a, cap, e, hr.below hb⟩, fun p hp => (he p hp).below hb⟩
theorem cMs_at (L : List MgA) (k : Nat) (h : k < L.length) (j : Nat) (hj : j < 9) : (cMs L)[k * 9 + j]? = (cM L[k])[j]? := by
 induction L generalizing k with
 | nil => simp at h
 | cons p L ih =>
  have e : cMs (p :: L) = cM p ++ cMs L := rfl
  have hl : (cM p).length = 9 := rfl
  rw [e]
  cases k with
  | zero => rw [List.getElem?_append_left (by omega)]; simp
  | succ k =>
   rw [List.getElem?_append_right (by omega), hl, show (k + 1) * 9 + j - 9 = k * 9 + j from by omega, ih k (by simpa using h)]
   simp
/-- The nine cells of a message. -/
def M9 (w : World) (b o : Nat) (p : MgA) : Prop := w.cell? ⟨b, o, none⟩ = some (.int .i64 p.1.kd) ∧ w.cell? ⟨b, o + 1, none⟩ = some (.int .i64 p.1.fr) ∧ w.cell? ⟨b, o + 2, none⟩ = some (.int .i64 p.1.dst) ∧ w.cell? ⟨b, o + 3, none⟩ = some (.int .i64 p.1.tm) ∧ w.cell? ⟨b, o + 4, none⟩ = some (.int .i64 p.1.ix) ∧ w.cell? ⟨b, o + 5, none⟩ = some (.int .i64 p.1.lt) ∧ w.cell? ⟨b, o + 6, none⟩ = some (.int .i64 p.1.cm) ∧ w.cell? ⟨b, o + 7, none⟩ = some (.bool p.1.ok) ∧ w.cell? ⟨b, o + 8, none⟩ = some (.slice p.2.1 p.1.es.length p.2.2)
theorem row_msg {w : World} {b off : Nat} {L : List MgA} (hc : ∀ i u, (cMs L)[i]? = some u → w.cell? ⟨b, off + i, none⟩ = some u) (k : Nat) (h : k < L.length) : M9 w b (off + k * 9) L[k] := by
 have q : ∀ j u, j < 9 → (cM L[k])[j]? = some u → w.cell? ⟨b, off + k * 9 + j, none⟩ = some u := fun j u hj hu => by
  rw [Nat.add_assoc]; exact hc _ _ ((cMs_at L k h j hj).trans hu)
 exact ⟨q 0 _ (by decide) rfl, q 1 _ (by decide) rfl, q 2 _ (by decide) rfl, q 3 _ (by decide) rfl, q 4 _ (by decide) rfl, q 5 _ (by decide) rfl, q 6 _ (by decide) rfl, q 7 _ (by decide) rfl, q 8 _ (by decide) rfl⟩
theorem M9.below {w w' : World} {b o : Nat} {p : MgA} {B : Nat} (h : M9 w b o p) (hb : Below B w w') (hlt : b < B) : M9 w' b o p := by
 obtain ⟨h0, h1, h2, h3, h4, h5, h6, h7, h8⟩ := h
 have q : ∀ j u, w.cell? ⟨b, j, none⟩ = some u → w'.cell? ⟨b, j, none⟩ = some u := fun j u hu => (hb.cell (p := ⟨b, j, none⟩) hlt).trans hu
 exact ⟨q _ _ h0, q _ _ h1, q _ _ h2, q _ _ h3, q _ _ h4, q _ _ h5, q _ _ h6, q _ _ h7, q _ _ h8⟩
end Go.Proofs.YtfogppnijdjakaaGreatDoor

/- Rows of integers: the laws' own helpers. -/
namespace Go.Proofs.YtfogppnijdjakaaGreatDoor
open Go.ChangeShapes Go.WideShapes Go.ChangeAt Go.RowKit
theorem Tryz.infL3 : (Tryz.prog.info? 3).map (fun i => (i.zero, i.size, i.bytes)) = some (some (.int .i64 0), 1, 8) := by kernel_rfl
def cI (l : List Int) : List Value := l.map fun c => .int .i64 (c)
theorem cI_len (l : List Int) : (cI l).length = l.length := by simp [cI]
theorem cI_at (l : List Int) (k : Nat) (h : k < l.length) : (cI l)[k]? = some (.int .i64 (l[k])) := by simp [cI, List.getElem?_eq_getElem h]
theorem cI_app (l m : List Int) : cI (l ++ m) = cI l ++ cI m := by simp [cI]
theorem cI_one (l : List Int) : ∀ u ∈ cI l, u.oneCell' = true := by
 intro u hu; simp [cI] at hu; obtain ⟨c, _, rfl⟩ := hu; rfl

set_option maxHeartbeats 400000 in
set_option maxRecDepth 100000 in
theorem copyInt (a : Option Addr) (cap : Nat) (l : List Int) (hl : l.length ≤ 1048576) (w : World) (hr : RowV w a (cI l)) :
  Calls Tryz.prog 62 #[.slice a l.length cap] w fun e w' => e = .returned (.slice (some ⟨w.heap.size, 0, none⟩) l.length l.length) ∧
   w'.ownsRow w.heap.size 3 1 (.slice (some ⟨w.heap.size, 0, none⟩) l.length l.length) l.length (cI l) ∧ Below w.heap.size w w' := by
 obtain ⟨i0, hi, hz0, hz1, hz2⟩ := info_parts Tryz.infL3
 have hcl := cI_len l
 go_enter Tryz.func62, Tryz.ntmps62
 go_wp2_with (at_make; refine wpList_make_full _ rfl _ _ 59 rfl w.heap.size 3 i0 (.int .i64 0) 1 Tryz.underlying59 hi hz0 hz1 .i64 .i64 _ _ l.length rfl rfl rfl rfl (by rw [hz2]; omega) (by unfold maxLen; omega) (Nat.le_refl _) ?_; intro w1 hown hgrow)
 rw [show l.length * 1 = (cI l).length * 1 from by rw [hcl], ← fillV_zero _ _ rfl] at hown
 have hb1 := (Below.refl w.heap.size w).grown hgrow (Nat.le_refl _) (fun k hk => by cases hk)
 clear hgrow
 have HR := hide hr
 have HCL := hide hcl
 clear hr hcl
 go_loopw [4] (fun i wr => ∃ k : Nat, k ≤ l.length ∧ i = .int .i64 k ∧ wr.ownsRow w.heap.size 3 1 (.slice (some ⟨w.heap.size, 0, none⟩) l.length l.length) l.length (fillV (.int .i64 0) (cI l) k) ∧ Below w.heap.size w wr) (fun i _ => l.length - (intOf i).toNat)
 case atStart => exact ⟨0, by omega, rfl, hown, hb1⟩
 case round =>
  clear hown hb1
  obtain ⟨k, hk, rfl, hown, hb⟩ := hrel
  by_cases hlt : k < l.length
  ·obtain ⟨b, off, ha, hblt, hc⟩ := (unhide HR).at (by rw [unhide HCL]; omega)
   subst ha
   have hc1 : wr.cell? ⟨b, off + k, none⟩ = some (.int .i64 (l[k])) := (hb.cell (p := ⟨b, off + k, none⟩) hblt).trans (hc k _ (cI_at l k hlt))
   have hc2 : wr.cell? ⟨w.heap.size, k, none⟩ = some (.int .i64 0) := by rw [hown.cellAt k (by omega), fillV_at _ _ k (by rw [unhide HCL]; exact hlt)]
   have hf2 := hown.frozenAt k
   have hlt' : (k : Int) < (l.length : Int) := by omega
   have R := hown.stored k (.int .i64 (l[k]))
   rw [fillV_set _ _ k _ (cI_at l k hlt)] at R
   have R2 : Below w.heap.size w (wr.setCell ⟨w.heap.size, k, none⟩ (.int .i64 (l[k]))) := hb.setCell (p := ⟨w.heap.size, k, none⟩) (Nat.le_refl _) _
   have R1 := R.1
   clear hc R hown hb HR hblt HCL
   go_wp2_with fail
   go_roundw
   case rel => exact ⟨k + 1, by omega, by go_num, R1, R2⟩
   case measure => simp [intOf]; omega
  ·rw [fillV_all _ _ k (by rw [unhide HCL]; omega)] at hown
   go_wp2_with fail
   go_ret
   exact ⟨rfl, hown, hb⟩

set_option maxHeartbeats 400000 in
set_option maxRecDepth 100000 in
theorem sameInt (a c : Option Addr) (cap cap2 : Nat) (l : List Int) (hl : l.length ≤ 1048576) (w : World) (hr : RowV w a (cI l)) (hr2 : RowV w c (cI l)) :
  Calls Tryz.prog 73 #[.slice a l.length cap, .slice c l.length cap2] w fun e w' => e = .returned (.bool true) ∧ Below w.heap.size w w' := by
 have HR := hide hr
 have HR2 := hide hr2
 have HCL := hide (cI_len l)
 clear hr hr2
 have hne : ((l.length : Int) != (l.length : Int)) = false := by simp
 go_enter Tryz.func73, Tryz.ntmps73
 go_wp2_with fail
 go_loopw [5] (fun i wr => ∃ k : Nat, k ≤ l.length ∧ i = .int .i64 k ∧ Below w.heap.size w wr) (fun i _ => l.length - (intOf i).toNat)
 case atStart => exact ⟨0, by omega, rfl, Below.refl _ _⟩
 case round =>
  obtain ⟨k, hk, rfl, hb⟩ := hrel
  by_cases hlt : k < l.length
  ·obtain ⟨b, off, ha, hblt, hc⟩ := (unhide HR).at (by rw [unhide HCL]; omega)
   obtain ⟨b2, off2, ha2, hblt2, hc2⟩ := (unhide HR2).at (by rw [unhide HCL]; omega)
   subst ha ha2
   have hc1 : wr.cell? ⟨b, off + k, none⟩ = some (.int .i64 (l[k])) := (hb.cell (p := ⟨b, off + k, none⟩) hblt).trans (hc k _ (cI_at l k hlt))
   have hc3 : wr.cell? ⟨b2, off2 + k, none⟩ = some (.int .i64 (l[k])) := (hb.cell (p := ⟨b2, off2 + k, none⟩) hblt2).trans (hc2 k _ (cI_at l k hlt))
   have hlt' : (k : Int) < (l.length : Int) := by omega
   have hlt0 : (0 : Int) ≤ (k : Int) := by omega
   have hne2 : ((l[k] : Int) != (l[k] : Int)) = false := by simp
   clear hc hc2 HR HR2 HCL
   go_wp2_with fail
   go_region_held3 (fun w' => w'.cell? ⟨b, off + k, none⟩ = some (.int .i64 (l[k])) ∧ w'.cell? ⟨b2, off2 + k, none⟩ = some (.int .i64 (l[k]))) (go_keep) (fail)
   all_goals
    go_wp2_with fail
    go_roundw
    case rel => exact ⟨k + 1, by omega, by go_num, hb.drew⟩
    case measure => simp [intOf]; omega
  ·go_wp2_with fail
   go_ret
   exact ⟨rfl, hb⟩

def onesInt (n : Nat) : List Value := (List.range n).map fun j => .int .i64 (((1 + j : Nat) : Int))
end Go.Proofs.YtfogppnijdjakaaGreatDoor
