/- Rows of pairs of integers: an element is two cells. Rows of elements of any size that a call owns, kept while other rows turn. -/
import Derived.Test.YthbkcijkokaoeaaRowV
namespace Go.Proofs.Ythbkcijkokaoeaa
open Go.ChangeShapes Go.WideShapes Go.ChangeAt Go.RowKit
def cP (l : List (Int × Int)) : List Value := l.flatMap fun c => [.int .i64 c.1, .int .i64 c.2]
theorem cP_cons (c : Int × Int) (l : List (Int × Int)) : cP (c :: l) = .int .i64 c.1 :: .int .i64 c.2 :: cP l := rfl
theorem cP_len (l : List (Int × Int)) : (cP l).length = l.length * 2 := by
  induction l with
  | nil => rfl
  | cons c l ih => rw [cP_cons]; simp [ih]; omega
theorem cP_at (l : List (Int × Int)) : ∀ (k : Nat) (h : k < l.length), (cP l)[k * 2]? = some (.int .i64 l[k].1) ∧ (cP l)[k * 2 + 1]? = some (.int .i64 l[k].2) := by
  induction l with
  | nil => intro k h; simp at h
  | cons c l ih =>
    intro k h
    cases k with
    | zero => exact ⟨rfl, rfl⟩
    | succ k =>
      have := ih k (by simpa using h)
      rw [cP_cons, show (k + 1) * 2 = k * 2 + 1 + 1 from by omega]
      simpa using this
theorem cP_app (l m : List (Int × Int)) : cP (l ++ m) = cP l ++ cP m := by simp [cP]
theorem cP_one (l : List (Int × Int)) : ∀ u ∈ cP l, u.oneCell' = true := by
  intro u hu; simp [cP] at hu; obtain ⟨a, b, _, rfl | rfl⟩ := hu <;> rfl
theorem made_two (z : Value) (n : Nat) : (madeCells #[z, z] n).toList = List.replicate n z := by
  apply List.ext_getElem?
  intro j
  by_cases hj : j < n
  · rcases Nat.mod_two_eq_zero_or_one j with h | h <;> simp [madeCells, hj, h]
  · simp [madeCells, hj]
theorem fillP_zero (l : List (Int × Int)) : fillV (.int .i64 0) (cP l) 0 = (madeCells #[.int .i64 0, .int .i64 0] (l.length * 2)).toList := by
  rw [made_two]; simp [fillV, cP_len]
theorem fillP_set (l : List (Int × Int)) (k : Nat) (h : k < l.length) : ((fillV (.int .i64 0) (cP l) (k * 2)).set (k * 2) (.int .i64 l[k].1)).set (k * 2 + 1) (.int .i64 l[k].2) = fillV (.int .i64 0) (cP l) ((k + 1) * 2) := by
  rw [fillV_set _ _ _ _ (cP_at l k h).1, fillV_set _ _ _ _ (cP_at l k h).2, show k * 2 + 1 + 1 = (k + 1) * 2 from by omega]
theorem fillV_past (z : Value) (xs : List Value) (k j : Nat) (h : k + j < xs.length) : (fillV z xs k)[k + j]? = some z := by
  unfold fillV
  have e1 : (xs.take k).length = k := by rw [List.length_take]; omega
  rw [List.getElem?_append_right (by omega), e1, List.getElem?_replicate, if_pos (by omega)]
/-- v owns its row of elements of z cells each in a block from lo up to hi. -/
def HeldZ (z : Nat) (w : World) (lo hi : Nat) (e : TypeId) (v : Value) (n : Nat) (xs : List Value) : Prop :=
  w.ownsRow lo e z v n xs ∧ (∀ k, v.ownBlock = some k → k < hi) ∧ hi ≤ w.heap.size
theorem heldZ_of {z : Nat} {w : World} {lo : Nat} {e : TypeId} {v : Value} {n : Nat} {xs : List Value} (h : w.ownsRow lo e z v n xs) : HeldZ z w lo w.heap.size e v n xs :=
  ⟨h, fun k hk => (h.lt k hk).2, Nat.le_refl _⟩
theorem HeldZ.below {z : Nat} {w w' : World} {lo hi B : Nat} {e : TypeId} {v : Value} {n : Nat} {xs : List Value} (h : HeldZ z w lo hi e v n xs) (hb : Below B w w') (hB : hi ≤ B) : HeldZ z w' lo hi e v n xs := by
  obtain ⟨⟨hl, h2⟩, hk, hs⟩ := h
  refine ⟨⟨hl, ?_⟩, hk, Nat.le_trans hs hb.size⟩
  rcases h2 with h2 | ⟨g, cap, cur, rfl, hbg, hg, hrest⟩
  · exact .inl h2
  · exact .inr ⟨g, cap, cur, rfl, hbg, (hb.block g (Nat.lt_of_lt_of_le (hk g rfl) hB)).trans hg, hrest⟩
theorem HeldZ.grown {z : Nat} {w w' : World} {lo hi : Nat} {row : Option Nat} {e : TypeId} {v : Value} {n : Nat} {xs : List Value} (h : HeldZ z w lo hi e v n xs) (hg : w.grownBy w' row) (hr : ∀ k, row = some k → k < lo ∨ hi ≤ k) : HeldZ z w' lo hi e v n xs := by
  obtain ⟨ho, hk, hs⟩ := h
  refine ⟨ho.kept hg ?_, hk, Nat.le_trans hs hg.size⟩
  cases hv : v.ownBlock with
  | none => exact .inl rfl
  | some k =>
    right; intro he
    rcases hr k he.symm with h1 | h1
    · exact absurd (ho.lt k hv).1 (by omega)
    · exact absurd (hk k hv) (by omega)
theorem HeldZ.own {z : Nat} {w : World} {lo hi : Nat} {e : TypeId} {v : Value} {n : Nat} {xs : List Value} (h : HeldZ z w lo hi e v n xs) : w.ownsRow lo e z v n xs := h.1
theorem HeldZ.le {z : Nat} {w : World} {lo hi : Nat} {e : TypeId} {v : Value} {n : Nat} {xs : List Value} (h : HeldZ z w lo hi e v n xs) : hi ≤ w.heap.size := h.2.2
theorem HeldZ.blk {z : Nat} {w : World} {lo hi : Nat} {e : TypeId} {v : Value} {n : Nat} {xs : List Value} (h : HeldZ z w lo hi e v n xs) : ∀ k, v.ownBlock = some k → lo ≤ k ∧ k < hi := fun k hk => ⟨(h.1.lt k hk).1, h.2.1 k hk⟩
theorem ownZ_rowV {z : Nat} {w : World} {base : Nat} {e : TypeId} {v : Value} {n : Nat} {xs : List Value} (h : w.ownsRow base e z v n xs) : ∃ a cap, v = .slice a n cap ∧ RowV w a xs := by
  obtain ⟨hl, h2⟩ := h
  rcases h2 with ⟨rfl, rfl⟩ | ⟨g, cap, cur, rfl, hbg, hg, hrest⟩
  · exact ⟨none, 0, rfl, .inl (List.length_eq_zero_iff.1 (by simpa using hl))⟩
  · refine ⟨some ⟨g, 0, none⟩, cap, rfl, ?_⟩
    have hown : w.ownsRow base e z (.slice (some ⟨g, 0, none⟩) n cap) n xs := ⟨hl, .inr ⟨g, cap, cur, rfl, hbg, hg, hrest⟩⟩
    refine .inr ⟨g, 0, rfl, (hown.lt g rfl).2, fun i u hu => ?_⟩
    have hi : i < xs.length := (List.getElem?_eq_some_iff.1 hu).1
    rw [Nat.zero_add, hown.cellAt i (by omega), hu]
theorem rowZ_at {z : Nat} {w : World} {base : Nat} {e : TypeId} {a : Option Addr} {n cap : Nat} {xs : List Value} (h : w.ownsRow base e z (.slice a n cap) n xs) : RowV w a xs := by
  obtain ⟨a', cap', e, h⟩ := ownZ_rowV h
  injection e with e1; subst e1; exact h
theorem HeldZ.rowV {z : Nat} {w : World} {lo hi : Nat} {e : TypeId} {a : Option Addr} {n cap : Nat} {xs : List Value} (h : HeldZ z w lo hi e (.slice a n cap) n xs) : RowV w a xs := rowZ_at h.1
theorem HeldZ.row {z : Nat} {w : World} {lo hi : Nat} {e : TypeId} {v : Value} {n : Nat} {xs : List Value} (h : HeldZ z w lo hi e v n xs) : ∃ a cap, v = .slice a n cap ∧ RowV w a xs := ownZ_rowV h.1
theorem Below.markedZ {z : Nat} {w0 w w' : World} {B lo hi : Nat} {e : TypeId} {v : Value} {n : Nat} {xs : List Value} (hb : Below B w0 w) (hB : B ≤ w.heap.size) (h : HeldZ z w lo hi e v n xs) (hl : B ≤ lo) (hg : w.grownBy w' v.ownBlock) : Below B w0 w' :=
  hb.grown hg hB fun k hk => Nat.le_trans hl (h.blk k hk).1
theorem cP_set (l : List (Int × Int)) : ∀ (k : Nat) (x y : Int), ((cP l).set (k * 2) (.int .i64 x)).set (k * 2 + 1) (.int .i64 y) = cP (l.set k (x, y)) := by
  induction l with
  | nil => intro k x y; simp [cP]
  | cons c l ih =>
    intro k x y
    cases k with
    | zero => rfl
    | succ k =>
      have := ih k x y
      rw [List.set_cons_succ, cP_cons, cP_cons, show (k + 1) * 2 = k * 2 + 1 + 1 from by omega, List.set_cons_succ, List.set_cons_succ, List.set_cons_succ, List.set_cons_succ, this]
/-- The pairs from place s on, j of them, turned into blanks. -/
def blk (l : List (Int × Int)) (s : Nat) : Nat → List (Int × Int)
  | 0 => l
  | j + 1 => (blk l s j).set (s + j) (32, 0)
theorem blk_len (l : List (Int × Int)) (s : Nat) : ∀ j, (blk l s j).length = l.length
  | 0 => rfl
  | j + 1 => by rw [blk, List.length_set, blk_len l s j]
theorem blk_at (l : List (Int × Int)) (s : Nat) : ∀ (j k : Nat) (h : k < l.length), (blk l s j)[k]'(by rw [blk_len]; exact h) = if s ≤ k ∧ k < s + j then (32, 0) else l[k]
  | 0, k, h => by rw [if_neg (by omega)]; rfl
  | j + 1, k, h => by
    simp only [blk]
    rw [List.getElem_set]
    by_cases e : s + j = k
    · rw [if_pos e, if_pos (by omega)]
    · rw [if_neg e, blk_at l s j k h]
      by_cases e2 : s ≤ k ∧ k < s + j
      · rw [if_pos e2, if_pos (by omega)]
      · rw [if_neg e2, if_neg (by omega)]
theorem blk_all (l : List (Int × Int)) : blk l 0 l.length = List.replicate l.length (32, 0) := by
  apply List.ext_getElem
  · rw [blk_len, List.length_replicate]
  · intro k h1 h2
    have h : k < l.length := by rwa [blk_len] at h1
    rw [blk_at l 0 l.length k h, if_pos (by omega), List.getElem_replicate]
theorem cP_rep (p : Nat) (x : Int) : cP (List.replicate p (x, x)) = List.replicate (p * 2) (.int .i64 x) := by
  induction p with
  | zero => rfl
  | succ p ih => rw [List.replicate_succ, cP_cons, ih, show (p + 1) * 2 = p * 2 + 1 + 1 from by omega, List.replicate_succ, List.replicate_succ]
theorem blk_rep (p : Nat) (c : Int × Int) : blk (List.replicate p c) 0 p = List.replicate p (32, 0) := by
  have h := blk_all (List.replicate p c)
  rwa [List.length_replicate] at h
end Go.Proofs.Ythbkcijkokaoeaa
