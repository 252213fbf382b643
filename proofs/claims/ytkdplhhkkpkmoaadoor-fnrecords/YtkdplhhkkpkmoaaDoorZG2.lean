/- Texts put together: Pair EntM SteM ComM. -/
import Derived.Test.YtkdplhhkkpkmoaaDoorZRowV
import Derived.Test.YtkdplhhkkpkmoaaDoorZG0
/- Rows of pairs of integers: an element is two cells. Rows of elements of any size that a call owns, kept while other rows turn. -/
namespace Go.Proofs.YtkdplhhkkpkmoaaDoor
open Go.ChangeShapes Go.WideShapes Go.ChangeAt Go.RowKit
def cP (l : List (Int × Int)) : List Value := l.flatMap fun c => [.int .i64 c.1, .int .i64 c.2]
/-- v owns its row of elements of z cells each in a block from lo up to hi. -/
def HeldZ (z : Nat) (w : World) (lo hi : Nat) (e : TypeId) (v : Value) (n : Nat) (xs : List Value) : Prop :=
 w.ownsRow lo e z v n xs ∧ (∀ k, v.ownBlock = some k → k < hi) ∧ hi ≤ w.heap.size
theorem heldZ_of {z : Nat} {w : World} {lo : Nat} {e : TypeId} {v : Value} {n : Nat} {xs : List Value} (h : w.ownsRow lo e z v n xs) : HeldZ z w lo w.heap.size e v n xs :=
 ⟨h, fun k hk => (h.lt k hk).2, Nat.le_refl _⟩
theorem HeldZ.below {z : Nat} {w w' : World} {lo hi B : Nat} {e : TypeId} {v : Value} {n : Nat} {xs : List Value} (h : HeldZ z w lo hi e v n xs) (hb : Below B w w') (hB : hi ≤ B) : HeldZ z w' lo hi e v n xs := by
 obtain ⟨⟨hl, h2⟩, hk, hs⟩ := h
 refine ⟨⟨hl, ?_⟩, hk, Nat.le_trans hs hb.size⟩
 rcases h2 with h2 | ⟨g, cap, cur, rfl, hbg, hg, hrest⟩
 ·exact .inl h2
 ·exact .inr ⟨g, cap, cur, rfl, hbg, (hb.block g (Nat.lt_of_lt_of_le (hk g rfl) hB)).trans hg, hrest⟩
theorem HeldZ.grown {z : Nat} {w w' : World} {lo hi : Nat} {row : Option Nat} {e : TypeId} {v : Value} {n : Nat} {xs : List Value} (h : HeldZ z w lo hi e v n xs) (hg : w.grownBy w' row) (hr : ∀ k, row = some k → k < lo ∨ hi ≤ k) : HeldZ z w' lo hi e v n xs := by
 obtain ⟨ho, hk, hs⟩ := h
 refine ⟨ho.kept hg ?_, hk, Nat.le_trans hs hg.size⟩
 cases hv : v.ownBlock with
 | none => exact .inl rfl
 | some k =>
  right; intro he
  rcases hr k he.symm with h1 | h1
  ·exact absurd (ho.lt k hv).1 (by omega)
  ·exact absurd (hk k hv) (by omega)
theorem HeldZ.own {z : Nat} {w : World} {lo hi : Nat} {e : TypeId} {v : Value} {n : Nat} {xs : List Value} (h : HeldZ z w lo hi e v n xs) : w.ownsRow lo e z v n xs := h.1
theorem HeldZ.blk {z : Nat} {w : World} {lo hi : Nat} {e : TypeId} {v : Value} {n : Nat} {xs : List Value} (h : HeldZ z w lo hi e v n xs) : ∀ k, v.ownBlock = some k → lo ≤ k ∧ k < hi := fun k hk => ⟨(h.1.lt k hk).1, h.2.1 k hk⟩
theorem ownZ_rowV {z : Nat} {w : World} {base : Nat} {e : TypeId} {v : Value} {n : Nat} {xs : List Value} (h : w.ownsRow base e z v n xs) : ∃ a cap, v = .slice a n cap ∧ RowV w a xs := by
 obtain ⟨hl, h2⟩ := h
 rcases h2 with ⟨rfl, rfl⟩ | ⟨g, cap, cur, rfl, hbg, hg, hrest⟩
 ·exact ⟨none, 0, rfl, .inl (List.length_eq_zero_iff.1 (by simpa using hl))⟩
 ·refine ⟨some ⟨g, 0, none⟩, cap, rfl, ?_⟩
  have hown : w.ownsRow base e z (.slice (some ⟨g, 0, none⟩) n cap) n xs := ⟨hl, .inr ⟨g, cap, cur, rfl, hbg, hg, hrest⟩⟩
  refine .inr ⟨g, 0, rfl, (hown.lt g rfl).2, fun i u hu => ?_⟩
  have hi : i < xs.length := (List.getElem?_eq_some_iff.1 hu).1
  rw [Nat.zero_add, hown.cellAt i (by omega), hu]
theorem rowZ_at {z : Nat} {w : World} {base : Nat} {e : TypeId} {a : Option Addr} {n cap : Nat} {xs : List Value} (h : w.ownsRow base e z (.slice a n cap) n xs) : RowV w a xs := by
 obtain ⟨a', cap', e, h⟩ := ownZ_rowV h
 injection e with e1; subst e1; exact h
theorem HeldZ.row {z : Nat} {w : World} {lo hi : Nat} {e : TypeId} {v : Value} {n : Nat} {xs : List Value} (h : HeldZ z w lo hi e v n xs) : ∃ a cap, v = .slice a n cap ∧ RowV w a xs := ownZ_rowV h.1
/-- The pairs from place s on, j of them, turned into blanks. -/
def blk (l : List (Int × Int)) (s : Nat) : Nat → List (Int × Int)
 | 0 => l
 | j + 1 => (blk l s j).set (s + j) (32, 0)
end Go.Proofs.YtkdplhhkkpkmoaaDoor

/- Rows of entries: a number and a text, two cells each. -/
namespace Go.Proofs.YtkdplhhkkpkmoaaDoor
open Go.ChangeShapes Go.WideShapes Go.ChangeAt Go.RowKit
def cE (l : List (Int × ByteArray)) : List Value := l.flatMap fun c => [.int .i64 c.1, .string c.2]
theorem cE_cons (c : Int × ByteArray) (l : List (Int × ByteArray)) : cE (c :: l) = .int .i64 c.1 :: .string c.2 :: cE l := rfl
theorem cE_len (l : List (Int × ByteArray)) : (cE l).length = l.length * 2 := by
 induction l with
 | nil => rfl
 | cons c l ih => rw [cE_cons]; simp [ih]; omega
theorem cE_at (l : List (Int × ByteArray)) : ∀ (k : Nat) (h : k < l.length), (cE l)[k * 2]? = some (.int .i64 l[k].1) ∧ (cE l)[k * 2 + 1]? = some (.string l[k].2) := by
 induction l with
 | nil => intro k h; simp at h
 | cons c l ih =>
  intro k h
  cases k with
  | zero => exact ⟨rfl, rfl⟩
  | succ k =>
   have := ih k (by simpa using h)
   rw [cE_cons, show (k + 1) * 2 = k * 2 + 1 + 1 from by omega]
   simpa using this
theorem cE_app (l m : List (Int × ByteArray)) : cE (l ++ m) = cE l ++ cE m := by simp [cE]
theorem cE_one (l : List (Int × ByteArray)) : ∀ u ∈ cE l, u.oneCell' = true := by
 intro u hu; simp [cE] at hu; obtain ⟨a, b, _, rfl | rfl⟩ := hu <;> rfl
theorem cE_take (l : List (Int × ByteArray)) (k : Nat) : cE (l.take k) = (cE l).take (k * 2) := by
 induction l generalizing k with
 | nil => simp [cE]
 | cons c l ih =>
  cases k with
  | zero => simp [cE]
  | succ k => rw [List.take_succ_cons, cE_cons, cE_cons, ih, show (k + 1) * 2 = k * 2 + 1 + 1 from by omega, List.take_succ_cons, List.take_succ_cons]
/-- The first k entries, the others still nought. -/
def fillE (l : List (Int × ByteArray)) (k : Nat) : List (Int × ByteArray) := l.take k ++ List.replicate (l.length - k) (0, ⟨#[]⟩)
theorem row_ent {w : World} {b off : Nat} {l : List (Int × ByteArray)} (hc : ∀ i u, (cE l)[i]? = some u → w.cell? ⟨b, off + i, none⟩ = some u) (k : Nat) (h : k < l.length) :
  w.cell? ⟨b, off + k * 2, none⟩ = some (.int .i64 l[k].1) ∧ w.cell? ⟨b, off + k * 2 + 1, none⟩ = some (.string l[k].2) :=
 ⟨hc _ _ (cE_at l k h).1, hc _ _ (cE_at l k h).2⟩
end Go.Proofs.YtkdplhhkkpkmoaaDoor

/- Which states are right. Plain mathematics. -/
namespace Go.Proofs.YtkdplhhkkpkmoaaDoor
open Go.ChangeShapes Go.WideShapes Go.ChangeAt Go.RowKit
set_option linter.unusedVariables false
abbrev Ent := Int × ByteArray
def entB (p T : Int) (e : Ent) : Bool := inB e.1 p T && decide (e.2.size ≤ 400)
def logB (T : Int) : Int → List Ent → Bool
 | _, [] => true
 | p, e :: l => entB p T e && logB T e.1 l
def stateB (tm vt : Int) (l : List Ent) : Bool := inB tm 0 1000 && inB vt (-1) 4 && decide (l.length ≤ 60) && logB tm 1 l
theorem logB_step (T p : Int) (l : List Ent) (k : Nat) (h : k < l.length) : logB T p (l.drop k) = (entB p T l[k] && logB T l[k].1 (l.drop (k + 1))) := by
 rw [List.drop_eq_getElem_cons h]; rfl
theorem logB_end (T p : Int) (l : List Ent) (k : Nat) (h : l.length ≤ k) : logB T p (l.drop k) = true := by
 rw [List.drop_eq_nil_of_le h]; rfl
theorem st1 {tm vt : Int} {l : List Ent} (h : inB tm 0 1000 = false) : stateB tm vt l = false := by unfold stateB; rw [h]; rfl
theorem st2 {tm vt : Int} {l : List Ent} (h : inB vt (-1) 4 = false) : stateB tm vt l = false := by unfold stateB; rw [h]; simp
theorem st3 {tm vt : Int} {l : List Ent} (h : ¬ l.length ≤ 60) : stateB tm vt l = false := by unfold stateB; rw [decide_eq_false h]; simp
theorem st4 {tm vt : Int} {l : List Ent} (h1 : inB tm 0 1000 = true) (h2 : inB vt (-1) 4 = true) (h3 : l.length ≤ 60) : stateB tm vt l = logB tm 1 l := by unfold stateB; rw [h1, h2, decide_eq_true h3]; rfl
theorem state_parts {tm vt : Int} {l : List Ent} (h : stateB tm vt l = true) : (0 ≤ tm ∧ tm ≤ 1000) ∧ (-1 ≤ vt ∧ vt ≤ 4) ∧ l.length ≤ 60 ∧ logB tm 1 l = true := by
 unfold stateB inB at h; simp at h; exact ⟨h.1.1.1, h.1.1.2, h.1.2, h.2⟩
/-- The term that an entry at place k may not be below. -/
def prevT (l : List Ent) (k : Nat) : Int := if h : k - 1 < l.length ∧ 0 < k then l[k - 1].1 else 1
theorem prevT_zero (l : List Ent) : prevT l 0 = 1 := by unfold prevT; rw [dif_neg (by omega)]
theorem prevT_succ (l : List Ent) (k : Nat) (h : k < l.length) : prevT l (k + 1) = l[k].1 := by unfold prevT; rw [dif_pos ⟨by simpa using h, by omega⟩]; rfl
end Go.Proofs.YtkdplhhkkpkmoaaDoor

/- Entries that two logs have alike from the front on. Plain mathematics. -/
namespace Go.Proofs.YtkdplhhkkpkmoaaDoor
open Go.ChangeShapes Go.WideShapes Go.ChangeAt Go.RowKit
def comN : List Ent → List Ent → Nat
 | e :: l, f :: m => if e = f then comN l m + 1 else 0
 | _, _ => 0
theorem comN_step {l m : List Ent} {k : Nat} (h1 : k < l.length) (h2 : k < m.length) (h : l[k] = m[k]) : comN (l.drop k) (m.drop k) = comN (l.drop (k + 1)) (m.drop (k + 1)) + 1 := by
 rw [List.drop_eq_getElem_cons h1, List.drop_eq_getElem_cons h2, comN, if_pos h]
theorem comN_stop {l m : List Ent} {k : Nat} (h1 : k < l.length) (h2 : k < m.length) (h : l[k] ≠ m[k]) : comN (l.drop k) (m.drop k) = 0 := by
 rw [List.drop_eq_getElem_cons h1, List.drop_eq_getElem_cons h2, comN, if_neg h]
theorem comN_nil1 (l m : List Ent) (k : Nat) (h : l.length ≤ k) : comN (l.drop k) (m.drop k) = 0 := by
 rw [List.drop_eq_nil_of_le h]; rfl
theorem comN_nil2 (l m : List Ent) (k : Nat) (h : m.length ≤ k) : comN (l.drop k) (m.drop k) = 0 := by
 rw [List.drop_eq_nil_of_le h]; cases l.drop k <;> rfl
theorem comN_le (l m : List Ent) : comN l m ≤ l.length ∧ comN l m ≤ m.length := by
 induction l generalizing m with
 | nil => simp [comN]
 | cons e l ih =>
  cases m with
  | nil => simp [comN]
  | cons f m =>
   unfold comN; split
   ·have := ih m; simp; exact this
   ·simp
end Go.Proofs.YtkdplhhkkpkmoaaDoor
