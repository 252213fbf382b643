/- Texts put together: Pair EntM. -/
import Derived.Test.YtpadpgjkpajfaaaZRowV
/- Rows of pairs of integers: an element is two cells. Rows of elements of any size that a call owns, kept while other rows turn. -/
namespace Go.Proofs.Ytpadpgjkpajfaaa
open Go.ChangeShapes Go.WideShapes Go.ChangeAt Go.RowKit
def cP (l : List (Int × Int)) : List Value := l.flatMap fun c => [.int .i64 c.1, .int .i64 c.2]
/-- v owns its row of elements of z cells each in a block from lo up to hi. -/
def HeldZ (z : Nat) (w : World) (lo hi : Nat) (e : TypeId) (v : Value) (n : Nat) (xs : List Value) : Prop :=
  w.ownsRow lo e z v n xs ∧ (∀ k, v.ownBlock = some k → k < hi) ∧ hi ≤ w.heap.size
theorem heldZ_of {z : Nat} {w : World} {lo : Nat} {e : TypeId} {v : Value} {n : Nat} {xs : List Value} (h : w.ownsRow lo e z v n xs) : HeldZ z w lo w.heap.size e v n xs :=
  ⟨h, fun k hk => (h.lt k hk).2, Nat.le_refl _⟩
theorem HeldZ.below {z : Nat} {w w' : World} {lo hi B : Nat} {e : TypeId} {v : Value} {n : Nat} {xs : List Value} (h : HeldZ z w lo hi e v n xs) (hb : Below B w w') (hB : hi ≤ B) : HeldZ z w' lo hi e v n xs := by
  obtain ⟨⟨hl, h2⟩, hk, hs⟩ := h
  refine ⟨⟨hl, ?_⟩, hk, Nat.le_trans hs hb.size⟩
  rcases h2 with h2 | ⟨g, cap, cur, rfl, hbg, hg, hrest⟩
  · exact .inl h2
  · exact .inr ⟨g, cap, cur, rfl, hbg, (hb.block g (Nat.lt_of_lt_of_le (hk g rfl) hB)).trans hg, hrest⟩
theorem HeldZ.grown {z : Nat} {w w' : World} {lo hi : Nat} {row : Option Nat} {e : TypeId} {v : Value} {n : Nat} {xs : List Value} (h : HeldZ z w lo hi e v n xs) (hg : w.grownBy w' row) (hr : ∀ k, row = some k → k < lo ∨ hi ≤ k) : HeldZ z w' lo hi e v n xs := by
  obtain ⟨ho, hk, hs⟩ := h
  refine ⟨ho.kept hg ?_, hk, Nat.le_trans hs hg.size⟩
  cases hv : v.ownBlock with
  | none => exact .inl rfl
  | some k =>
    right; intro he
    rcases hr k he.symm with h1 | h1
    · exact absurd (ho.lt k hv).1 (by omega)
    · exact absurd (hk k hv) (by omega)
theorem HeldZ.own {z : Nat} {w : World} {lo hi : Nat} {e : TypeId} {v : Value} {n : Nat} {xs : List Value} (h : HeldZ z w lo hi e v n xs) : w.ownsRow lo e z v n xs := h.1
theorem HeldZ.le {z : Nat} {w : World} {lo hi : Nat} {e : TypeId} {v : Value} {n : Nat} {xs : List Value} (h : HeldZ z w lo hi e v n xs) : hi ≤ w.heap.size := h.2.2
theorem HeldZ.blk {z : Nat} {w : World} {lo hi : Nat} {e : TypeId} {v : Value} {n : Nat} {xs : List Value} (h : HeldZ z w lo hi e v n xs) : ∀ k, v.ownBlock = some k → lo ≤ k ∧ k < hi := fun k hk => ⟨(h.1.lt k hk).1, h.2.1 k hk⟩
theorem ownZ_rowV {z : Nat} {w : World} {base : Nat} {e : TypeId} {v : Value} {n : Nat} {xs : List Value} (h : w.ownsRow base e z v n xs) : ∃ a cap, v = .slice a n cap ∧ RowV w a xs := by
  obtain ⟨hl, h2⟩ := h
  rcases h2 with ⟨rfl, rfl⟩ | ⟨g, cap, cur, rfl, hbg, hg, hrest⟩
  · exact ⟨none, 0, rfl, .inl (List.length_eq_zero_iff.1 (by simpa using hl))⟩
  · refine ⟨some ⟨g, 0, none⟩, cap, rfl, ?_⟩
    have hown : w.ownsRow base e z (.slice (some ⟨g, 0, none⟩) n cap) n xs := ⟨hl, .inr ⟨g, cap, cur, rfl, hbg, hg, hrest⟩⟩
    refine .inr ⟨g, 0, rfl, (hown.lt g rfl).2, fun i u hu => ?_⟩
    have hi : i < xs.length := (List.getElem?_eq_some_iff.1 hu).1
    rw [Nat.zero_add, hown.cellAt i (by omega), hu]
theorem rowZ_at {z : Nat} {w : World} {base : Nat} {e : TypeId} {a : Option Addr} {n cap : Nat} {xs : List Value} (h : w.ownsRow base e z (.slice a n cap) n xs) : RowV w a xs := by
  obtain ⟨a', cap', e, h⟩ := ownZ_rowV h
  injection e with e1; subst e1; exact h
theorem HeldZ.rowV {z : Nat} {w : World} {lo hi : Nat} {e : TypeId} {a : Option Addr} {n cap : Nat} {xs : List Value} (h : HeldZ z w lo hi e (.slice a n cap) n xs) : RowV w a xs := rowZ_at h.1
theorem HeldZ.row {z : Nat} {w : World} {lo hi : Nat} {e : TypeId} {v : Value} {n : Nat} {xs : List Value} (h : HeldZ z w lo hi e v n xs) : ∃ a cap, v = .slice a n cap ∧ RowV w a xs := ownZ_rowV h.1
/-- The pairs from place s on, j of them, turned into blanks. -/
def blk (l : List (Int × Int)) (s : Nat) : Nat → List (Int × Int)
  | 0 => l
  | j + 1 => (blk l s j).set (s + j) (32, 0)
end Go.Proofs.Ytpadpgjkpajfaaa

/- Rows of entries: a number and a text, two cells each. -/
namespace Go.Proofs.Ytpadpgjkpajfaaa
open Go.ChangeShapes Go.WideShapes Go.ChangeAt Go.RowKit
def cE (l : List (Int × ByteArray)) : List Value := l.flatMap fun c => [.int .i64 c.1, .string c.2]
theorem cE_cons (c : Int × ByteArray) (l : List (Int × ByteArray)) : cE (c :: l) = .int .i64 c.1 :: .string c.2 :: cE l := rfl
theorem cE_len (l : List (Int × ByteArray)) : (cE l).length = l.length * 2 := by
  induction l with
  | nil => rfl
  | cons c l ih => rw [cE_cons]; simp [ih]; omega
theorem cE_at (l : List (Int × ByteArray)) : ∀ (k : Nat) (h : k < l.length), (cE l)[k * 2]? = some (.int .i64 l[k].1) ∧ (cE l)[k * 2 + 1]? = some (.string l[k].2) := by
  induction l with
  | nil => intro k h; simp at h
  | cons c l ih =>
    intro k h
    cases k with
    | zero => exact ⟨rfl, rfl⟩
    | succ k =>
      have := ih k (by simpa using h)
      rw [cE_cons, show (k + 1) * 2 = k * 2 + 1 + 1 from by omega]
      simpa using this
theorem cE_app (l m : List (Int × ByteArray)) : cE (l ++ m) = cE l ++ cE m := by simp [cE]
theorem cE_one (l : List (Int × ByteArray)) : ∀ u ∈ cE l, u.oneCell' = true := by
  intro u hu; simp [cE] at hu; obtain ⟨a, b, _, rfl | rfl⟩ := hu <;> rfl
theorem cE_set (l : List (Int × ByteArray)) : ∀ (k : Nat) (x : Int) (y : ByteArray), ((cE l).set (k * 2) (.int .i64 x)).set (k * 2 + 1) (.string y) = cE (l.set k (x, y)) := by
  induction l with
  | nil => intro k x y; simp [cE]
  | cons c l ih =>
    intro k x y
    cases k with
    | zero => rfl
    | succ k =>
      have := ih k x y
      rw [List.set_cons_succ, cE_cons, cE_cons, show (k + 1) * 2 = k * 2 + 1 + 1 from by omega, List.set_cons_succ, List.set_cons_succ, List.set_cons_succ, List.set_cons_succ, this]
theorem made_ent (n : Nat) : (madeCells #[.int .i64 0, .string ⟨#[]⟩] (n * 2)).toList = cE (List.replicate n (0, ⟨#[]⟩)) := by
  apply List.ext_getElem?
  intro j
  by_cases hj : j < n * 2
  · obtain ⟨h0, h1⟩ := cE_at (List.replicate n ((0 : Int), (⟨#[]⟩ : ByteArray))) (j / 2) (by simp; omega)
    rw [List.getElem_replicate] at h0 h1
    rcases Nat.mod_two_eq_zero_or_one j with h | h
    · rw [show j / 2 * 2 = j from by omega] at h0
      rw [h0]; simp [madeCells, hj, h]
    · rw [show j / 2 * 2 + 1 = j from by omega] at h1
      rw [h1]; simp [madeCells, hj, h]
  · rw [List.getElem?_eq_none (by simp [madeCells]; omega), List.getElem?_eq_none (by rw [cE_len]; simp; omega)]
/-- The first k entries, the others still nought. -/
def fillE (l : List (Int × ByteArray)) (k : Nat) : List (Int × ByteArray) := l.take k ++ List.replicate (l.length - k) (0, ⟨#[]⟩)
theorem fillE_len (l : List (Int × ByteArray)) (k : Nat) (h : k ≤ l.length) : (fillE l k).length = l.length := by simp [fillE]; omega
theorem fillE_zero (l : List (Int × ByteArray)) : fillE l 0 = List.replicate l.length (0, ⟨#[]⟩) := by simp [fillE]
theorem fillE_all (l : List (Int × ByteArray)) (k : Nat) (h : l.length ≤ k) : fillE l k = l := by
  unfold fillE; rw [List.take_of_length_le h, show l.length - k = 0 from by omega]; simp
theorem fillE_at (l : List (Int × ByteArray)) (k : Nat) (h : k < l.length) : (fillE l k)[k]'(by rw [fillE_len l k (by omega)]; exact h) = (0, ⟨#[]⟩) := by
  have e1 : (l.take k).length = k := by rw [List.length_take]; omega
  have : (fillE l k)[k]? = some (0, ⟨#[]⟩) := by
    unfold fillE
    rw [List.getElem?_append_right (by omega), e1, List.getElem?_replicate, if_pos (by omega)]
  exact (List.getElem?_eq_some_iff.1 this).2
theorem fillE_set (l : List (Int × ByteArray)) (k : Nat) (h : k < l.length) : (fillE l k).set k (l[k].1, l[k].2) = fillE l (k + 1) := by
  have e1 : (l.take k).length = k := by rw [List.length_take]; omega
  unfold fillE
  rw [List.set_append_right _ _ (by omega), e1, Nat.sub_self, show l.length - k = (l.length - (k + 1)) + 1 from by omega, List.replicate_succ, List.set_cons_zero, show l.take (k + 1) = l.take k ++ [l[k]] from by rw [List.take_add_one, List.getElem?_eq_getElem h]; rfl, List.append_assoc]
  rfl
theorem row_ent {w : World} {b off : Nat} {l : List (Int × ByteArray)} (hc : ∀ i u, (cE l)[i]? = some u → w.cell? ⟨b, off + i, none⟩ = some u) (k : Nat) (h : k < l.length) :
    w.cell? ⟨b, off + k * 2, none⟩ = some (.int .i64 l[k].1) ∧ w.cell? ⟨b, off + k * 2 + 1, none⟩ = some (.string l[k].2) :=
  ⟨hc _ _ (cE_at l k h).1, hc _ _ (cE_at l k h).2⟩
end Go.Proofs.Ytpadpgjkpajfaaa
