/- Texts put together: Pair EntM SteM NdM UtM NpM WinI Bf. -/
import Derived.Test.YtjlajpnhcphngaaZG0
/- Rows of pairs of integers: an element is two cells. Rows of elements of any size that a call owns, kept while other rows turn. -/
namespace Go.Proofs.Ytjlajpnhcphngaa
open Go.ChangeShapes Go.WideShapes Go.ChangeAt Go.RowKit
def cP (l : List (Int × Int)) : List Value := l.flatMap fun c => [.int .i64 c.1, .int .i64 c.2]
/-- v owns its row of elements of z cells each in a block from lo up to hi. -/
def HeldZ (z : Nat) (w : World) (lo hi : Nat) (e : TypeId) (v : Value) (n : Nat) (xs : List Value) : Prop :=
  w.ownsRow lo e z v n xs ∧ (∀ k, v.ownBlock = some k → k < hi) ∧ hi ≤ w.heap.size
theorem heldZ_of {z : Nat} {w : World} {lo : Nat} {e : TypeId} {v : Value} {n : Nat} {xs : List Value} (h : w.ownsRow lo e z v n xs) : HeldZ z w lo w.heap.size e v n xs :=
  ⟨h, fun k hk => (h.lt k hk).2, Nat.le_refl _⟩
theorem HeldZ.below {z : Nat} {w w' : World} {lo hi B : Nat} {e : TypeId} {v : Value} {n : Nat} {xs : List Value} (h : HeldZ z w lo hi e v n xs) (hb : Below B w w') (hB : hi ≤ B) : HeldZ z w' lo hi e v n xs := by
  obtain ⟨⟨hl, h2⟩, hk, hs⟩ := h
  refine ⟨⟨hl, ?_⟩, hk, Nat.le_trans hs hb.size⟩
  rcases h2 with h2 | ⟨g, cap, cur, rfl, hbg, hg, hrest⟩
  · exact .inl h2
  · exact .inr ⟨g, cap, cur, rfl, hbg, (hb.block g (Nat.lt_of_lt_of_le (hk g rfl) hB)).trans hg, hrest⟩
theorem HeldZ.grown {z : Nat} {w w' : World} {lo hi : Nat} {row : Option Nat} {e : TypeId} {v : Value} {n : Nat} {xs : List Value} (h : HeldZ z w lo hi e v n xs) (hg : w.grownBy w' row) (hr : ∀ k, row = some k → k < lo ∨ hi ≤ k) : HeldZ z w' lo hi e v n xs := by
  obtain ⟨ho, hk, hs⟩ := h
  refine ⟨ho.kept hg ?_, hk, Nat.le_trans hs hg.size⟩
  cases hv : v.ownBlock with
  | none => exact .inl rfl
  | some k =>
    right; intro he
    rcases hr k he.symm with h1 | h1
    · exact absurd (ho.lt k hv).1 (by omega)
    · exact absurd (hk k hv) (by omega)
theorem HeldZ.own {z : Nat} {w : World} {lo hi : Nat} {e : TypeId} {v : Value} {n : Nat} {xs : List Value} (h : HeldZ z w lo hi e v n xs) : w.ownsRow lo e z v n xs := h.1
theorem HeldZ.le {z : Nat} {w : World} {lo hi : Nat} {e : TypeId} {v : Value} {n : Nat} {xs : List Value} (h : HeldZ z w lo hi e v n xs) : hi ≤ w.heap.size := h.2.2
theorem HeldZ.blk {z : Nat} {w : World} {lo hi : Nat} {e : TypeId} {v : Value} {n : Nat} {xs : List Value} (h : HeldZ z w lo hi e v n xs) : ∀ k, v.ownBlock = some k → lo ≤ k ∧ k < hi := fun k hk => ⟨(h.1.lt k hk).1, h.2.1 k hk⟩
theorem ownZ_rowV {z : Nat} {w : World} {base : Nat} {e : TypeId} {v : Value} {n : Nat} {xs : List Value} (h : w.ownsRow base e z v n xs) : ∃ a cap, v = .slice a n cap ∧ RowV w a xs := by
  obtain ⟨hl, h2⟩ := h
  rcases h2 with ⟨rfl, rfl⟩ | ⟨g, cap, cur, rfl, hbg, hg, hrest⟩
  · exact ⟨none, 0, rfl, .inl (List.length_eq_zero_iff.1 (by simpa using hl))⟩
  · refine ⟨some ⟨g, 0, none⟩, cap, rfl, ?_⟩
    have hown : w.ownsRow base e z (.slice (some ⟨g, 0, none⟩) n cap) n xs := ⟨hl, .inr ⟨g, cap, cur, rfl, hbg, hg, hrest⟩⟩
    refine .inr ⟨g, 0, rfl, (hown.lt g rfl).2, fun i u hu => ?_⟩
    have hi : i < xs.length := (List.getElem?_eq_some_iff.1 hu).1
    rw [Nat.zero_add, hown.cellAt i (by omega), hu]
theorem rowZ_at {z : Nat} {w : World} {base : Nat} {e : TypeId} {a : Option Addr} {n cap : Nat} {xs : List Value} (h : w.ownsRow base e z (.slice a n cap) n xs) : RowV w a xs := by
  obtain ⟨a', cap', e, h⟩ := ownZ_rowV h
  injection e with e1; subst e1; exact h
theorem HeldZ.rowV {z : Nat} {w : World} {lo hi : Nat} {e : TypeId} {a : Option Addr} {n cap : Nat} {xs : List Value} (h : HeldZ z w lo hi e (.slice a n cap) n xs) : RowV w a xs := rowZ_at h.1
theorem HeldZ.row {z : Nat} {w : World} {lo hi : Nat} {e : TypeId} {v : Value} {n : Nat} {xs : List Value} (h : HeldZ z w lo hi e v n xs) : ∃ a cap, v = .slice a n cap ∧ RowV w a xs := ownZ_rowV h.1
/-- The pairs from place s on, j of them, turned into blanks. -/
def blk (l : List (Int × Int)) (s : Nat) : Nat → List (Int × Int)
  | 0 => l
  | j + 1 => (blk l s j).set (s + j) (32, 0)
end Go.Proofs.Ytjlajpnhcphngaa

/- Rows of entries: a number and a text, two cells each. -/
namespace Go.Proofs.Ytjlajpnhcphngaa
open Go.ChangeShapes Go.WideShapes Go.ChangeAt Go.RowKit
def cE (l : List (Int × ByteArray)) : List Value := l.flatMap fun c => [.int .i64 c.1, .string c.2]
theorem cE_cons (c : Int × ByteArray) (l : List (Int × ByteArray)) : cE (c :: l) = .int .i64 c.1 :: .string c.2 :: cE l := rfl
theorem cE_len (l : List (Int × ByteArray)) : (cE l).length = l.length * 2 := by
  induction l with
  | nil => rfl
  | cons c l ih => rw [cE_cons]; simp [ih]; omega
theorem cE_at (l : List (Int × ByteArray)) : ∀ (k : Nat) (h : k < l.length), (cE l)[k * 2]? = some (.int .i64 l[k].1) ∧ (cE l)[k * 2 + 1]? = some (.string l[k].2) := by
  induction l with
  | nil => intro k h; simp at h
  | cons c l ih =>
    intro k h
    cases k with
    | zero => exact ⟨rfl, rfl⟩
    | succ k =>
      have := ih k (by simpa using h)
      rw [cE_cons, show (k + 1) * 2 = k * 2 + 1 + 1 from by omega]
      simpa using this
theorem cE_app (l m : List (Int × ByteArray)) : cE (l ++ m) = cE l ++ cE m := by simp [cE]
theorem cE_one (l : List (Int × ByteArray)) : ∀ u ∈ cE l, u.oneCell' = true := by
  intro u hu; simp [cE] at hu; obtain ⟨a, b, _, rfl | rfl⟩ := hu <;> rfl
theorem cE_set (l : List (Int × ByteArray)) : ∀ (k : Nat) (x : Int) (y : ByteArray), ((cE l).set (k * 2) (.int .i64 x)).set (k * 2 + 1) (.string y) = cE (l.set k (x, y)) := by
  induction l with
  | nil => intro k x y; simp [cE]
  | cons c l ih =>
    intro k x y
    cases k with
    | zero => rfl
    | succ k =>
      have := ih k x y
      rw [List.set_cons_succ, cE_cons, cE_cons, show (k + 1) * 2 = k * 2 + 1 + 1 from by omega, List.set_cons_succ, List.set_cons_succ, List.set_cons_succ, List.set_cons_succ, this]
theorem made_ent (n : Nat) : (madeCells #[.int .i64 0, .string ⟨#[]⟩] (n * 2)).toList = cE (List.replicate n (0, ⟨#[]⟩)) := by
  apply List.ext_getElem?
  intro j
  by_cases hj : j < n * 2
  · obtain ⟨h0, h1⟩ := cE_at (List.replicate n ((0 : Int), (⟨#[]⟩ : ByteArray))) (j / 2) (by simp; omega)
    rw [List.getElem_replicate] at h0 h1
    rcases Nat.mod_two_eq_zero_or_one j with h | h
    · rw [show j / 2 * 2 = j from by omega] at h0
      rw [h0]; simp [madeCells, hj, h]
    · rw [show j / 2 * 2 + 1 = j from by omega] at h1
      rw [h1]; simp [madeCells, hj, h]
  · rw [List.getElem?_eq_none (by simp [madeCells]; omega), List.getElem?_eq_none (by rw [cE_len]; simp; omega)]
/-- The first k entries, the others still nought. -/
def fillE (l : List (Int × ByteArray)) (k : Nat) : List (Int × ByteArray) := l.take k ++ List.replicate (l.length - k) (0, ⟨#[]⟩)
theorem fillE_len (l : List (Int × ByteArray)) (k : Nat) (h : k ≤ l.length) : (fillE l k).length = l.length := by simp [fillE]; omega
theorem fillE_zero (l : List (Int × ByteArray)) : fillE l 0 = List.replicate l.length (0, ⟨#[]⟩) := by simp [fillE]
theorem fillE_all (l : List (Int × ByteArray)) (k : Nat) (h : l.length ≤ k) : fillE l k = l := by
  unfold fillE; rw [List.take_of_length_le h, show l.length - k = 0 from by omega]; simp
theorem fillE_at (l : List (Int × ByteArray)) (k : Nat) (h : k < l.length) : (fillE l k)[k]'(by rw [fillE_len l k (by omega)]; exact h) = (0, ⟨#[]⟩) := by
  have e1 : (l.take k).length = k := by rw [List.length_take]; omega
  have : (fillE l k)[k]? = some (0, ⟨#[]⟩) := by
    unfold fillE
    rw [List.getElem?_append_right (by omega), e1, List.getElem?_replicate, if_pos (by omega)]
  exact (List.getElem?_eq_some_iff.1 this).2
theorem fillE_set (l : List (Int × ByteArray)) (k : Nat) (h : k < l.length) : (fillE l k).set k (l[k].1, l[k].2) = fillE l (k + 1) := by
  have e1 : (l.take k).length = k := by rw [List.length_take]; omega
  unfold fillE
  rw [List.set_append_right _ _ (by omega), e1, Nat.sub_self, show l.length - k = (l.length - (k + 1)) + 1 from by omega, List.replicate_succ, List.set_cons_zero, show l.take (k + 1) = l.take k ++ [l[k]] from by rw [List.take_add_one, List.getElem?_eq_getElem h]; rfl, List.append_assoc]
  rfl
theorem row_ent {w : World} {b off : Nat} {l : List (Int × ByteArray)} (hc : ∀ i u, (cE l)[i]? = some u → w.cell? ⟨b, off + i, none⟩ = some u) (k : Nat) (h : k < l.length) :
    w.cell? ⟨b, off + k * 2, none⟩ = some (.int .i64 l[k].1) ∧ w.cell? ⟨b, off + k * 2 + 1, none⟩ = some (.string l[k].2) :=
  ⟨hc _ _ (cE_at l k h).1, hc _ _ (cE_at l k h).2⟩
end Go.Proofs.Ytjlajpnhcphngaa

/- Which states are right. Plain mathematics. -/
namespace Go.Proofs.Ytjlajpnhcphngaa
open Go.ChangeShapes Go.WideShapes Go.ChangeAt Go.RowKit
set_option linter.unusedVariables false
abbrev Ent := Int × ByteArray
def entB (p T : Int) (e : Ent) : Bool := inB e.1 p T && decide (e.2.size ≤ 400)
def logB (T : Int) : Int → List Ent → Bool
  | _, [] => true
  | p, e :: l => entB p T e && logB T e.1 l
def stateB (tm vt : Int) (l : List Ent) : Bool := inB tm 0 1000 && inB vt (-1) 4 && decide (l.length ≤ 60) && logB tm 1 l
theorem logB_step (T p : Int) (l : List Ent) (k : Nat) (h : k < l.length) : logB T p (l.drop k) = (entB p T l[k] && logB T l[k].1 (l.drop (k + 1))) := by
  rw [List.drop_eq_getElem_cons h]; rfl
theorem logB_end (T p : Int) (l : List Ent) (k : Nat) (h : l.length ≤ k) : logB T p (l.drop k) = true := by
  rw [List.drop_eq_nil_of_le h]; rfl
theorem st1 {tm vt : Int} {l : List Ent} (h : inB tm 0 1000 = false) : stateB tm vt l = false := by unfold stateB; rw [h]; rfl
theorem st2 {tm vt : Int} {l : List Ent} (h : inB vt (-1) 4 = false) : stateB tm vt l = false := by unfold stateB; rw [h]; simp
theorem st3 {tm vt : Int} {l : List Ent} (h : ¬ l.length ≤ 60) : stateB tm vt l = false := by unfold stateB; rw [decide_eq_false h]; simp
theorem st4 {tm vt : Int} {l : List Ent} (h1 : inB tm 0 1000 = true) (h2 : inB vt (-1) 4 = true) (h3 : l.length ≤ 60) : stateB tm vt l = logB tm 1 l := by unfold stateB; rw [h1, h2, decide_eq_true h3]; rfl
theorem state_parts {tm vt : Int} {l : List Ent} (h : stateB tm vt l = true) : (0 ≤ tm ∧ tm ≤ 1000) ∧ (-1 ≤ vt ∧ vt ≤ 4) ∧ l.length ≤ 60 ∧ logB tm 1 l = true := by
  unfold stateB inB at h; simp at h; exact ⟨h.1.1.1, h.1.1.2, h.1.2, h.2⟩
/-- The term that an entry at place k may not be below. -/
def prevT (l : List Ent) (k : Nat) : Int := if h : k - 1 < l.length ∧ 0 < k then l[k - 1].1 else 1
theorem prevT_zero (l : List Ent) : prevT l 0 = 1 := by unfold prevT; rw [dif_neg (by omega)]
theorem prevT_succ (l : List Ent) (k : Nat) (h : k < l.length) : prevT l (k + 1) = l[k].1 := by unfold prevT; rw [dif_pos ⟨by simpa using h, by omega⟩]; rfl
end Go.Proofs.Ytjlajpnhcphngaa

/- Which nodes are right. Plain mathematics. -/
namespace Go.Proofs.Ytjlajpnhcphngaa
open Go.ChangeShapes Go.WideShapes Go.ChangeAt Go.RowKit
set_option linter.unusedVariables false
theorem bdic (b : Bool) : b = false ∨ b = true := by cases b <;> simp
/-- Votes rise, each from q on. -/
def upB (nd : Int) : Int → List Int → Bool
  | _, [] => true
  | q, x :: l => inB x q (nd - 1) && upB nd (x + 1) l
/-- Places of each node. -/
def plB (n : Int) : List Int → List Int → Bool
  | x :: lx, g :: lg => inB x 1 (n + 1) && inB g 0 (x - 1) && plB n lx lg
  | _, _ => true
def roleB (ro : Int) (up : Bool) : Bool := inB ro 0 2 && (up || decide (ro = 0))
def placesB (nd : Int) (n : Int) (lx lg : List Int) : Bool := decide ((lx.length : Int) = nd) && decide ((lg.length : Int) = nd) && plB n lx lg
def nodeB (id nd tm vt ro cm el wt : Int) (up : Bool) (l : List Ent) (lv lx lg : List Int) : Bool :=
  inB nd 1 5 && inB id 0 (nd - 1) && decide (vt < nd) && stateB tm vt l && roleB ro up && inB cm 0 (l.length : Int) && inB el 0 1000 && inB wt 5 100 && upB nd 0 lv && placesB nd (l.length : Int) lx lg
theorem upB_step (nd q : Int) (l : List Int) (k : Nat) (h : k < l.length) : upB nd q (l.drop k) = (inB l[k] q (nd - 1) && upB nd (l[k] + 1) (l.drop (k + 1))) := by
  rw [List.drop_eq_getElem_cons h]; rfl
theorem upB_end (nd q : Int) (l : List Int) (k : Nat) (h : l.length ≤ k) : upB nd q (l.drop k) = true := by
  rw [List.drop_eq_nil_of_le h]; rfl
theorem plB_step (n : Int) (lx lg : List Int) (k : Nat) (h : k < lx.length) (h2 : k < lg.length) : plB n (lx.drop k) (lg.drop k) = (inB lx[k] 1 (n + 1) && inB lg[k] 0 (lx[k] - 1) && plB n (lx.drop (k + 1)) (lg.drop (k + 1))) := by
  rw [List.drop_eq_getElem_cons h, List.drop_eq_getElem_cons h2]; rfl
theorem plB_end (n : Int) (lx lg : List Int) (k : Nat) (h : lx.length ≤ k) : plB n (lx.drop k) (lg.drop k) = true := by
  rw [List.drop_eq_nil_of_le h]; rfl
/-- The least that a vote at place k may be. -/
def prevV (l : List Int) (k : Nat) : Int := if h : k - 1 < l.length ∧ 0 < k then l[k - 1] + 1 else 0
theorem prevV_zero (l : List Int) : prevV l 0 = 0 := by unfold prevV; rw [dif_neg (by omega)]
theorem prevV_succ (l : List Int) (k : Nat) (h : k < l.length) : prevV l (k + 1) = l[k] + 1 := by unfold prevV; rw [dif_pos ⟨by simpa using h, by omega⟩]; rfl
end Go.Proofs.Ytjlajpnhcphngaa

/- The term at a place, and whether a log is up to date. Plain mathematics. -/
namespace Go.Proofs.Ytjlajpnhcphngaa
open Go.ChangeShapes Go.WideShapes Go.ChangeAt Go.RowKit
set_option linter.unusedVariables false
/-- The term at place k, counted from 1; that of place 0 is 0. -/
def tAt (l : List Ent) (k : Nat) : Int := if h : 0 < k ∧ k - 1 < l.length then l[k - 1].1 else 0
theorem tAt_zero (l : List Ent) : tAt l 0 = 0 := by unfold tAt; rw [dif_neg (by omega)]
theorem tAt_succ (l : List Ent) (j : Nat) (h : j < l.length) : tAt l (j + 1) = l[j].1 := by unfold tAt; rw [dif_pos ⟨by omega, by simpa using h⟩]; rfl
def utB (n : Int) (T iq tq : Int) : Bool := decide (T < tq) || (decide (tq = T) && decide (n ≤ iq))
end Go.Proofs.Ytjlajpnhcphngaa

/- How many nodes have a place. Plain mathematics. -/
namespace Go.Proofs.Ytjlajpnhcphngaa
open Go.ChangeShapes Go.WideShapes Go.ChangeAt Go.RowKit
set_option linter.unusedVariables false
/-- Of the nodes from k on, the node itself left out, how many have place p. -/
def holdA (id p : Int) : Nat → List Int → Nat
  | _, [] => 0
  | k, x :: l => (if (k : Int) ≠ id ∧ p ≤ x then 1 else 0) + holdA id p (k + 1) l
/-- How many have place p, the node itself too. -/
def holds (id p : Int) (l : List Int) : Nat := 1 + holdA id p 0 l
theorem holdA_drop (id p : Int) (l : List Int) (k : Nat) (h : k < l.length) : holdA id p k (l.drop k) = (if (k : Int) ≠ id ∧ p ≤ l[k] then 1 else 0) + holdA id p (k + 1) (l.drop (k + 1)) := by
  rw [List.drop_eq_getElem_cons h]; rfl
theorem holdA_end (id p : Int) (l : List Int) (k : Nat) (h : l.length ≤ k) : holdA id p k (l.drop k) = 0 := by
  rw [List.drop_eq_nil_of_le h]; rfl
theorem holdA_le (id p : Int) : ∀ (l : List Int) (k : Nat), holdA id p k l ≤ l.length
  | [], _ => Nat.le_refl _
  | x :: l, k => by
    have := holdA_le id p l (k + 1)
    unfold holdA
    split <;> simp <;> omega
end Go.Proofs.Ytjlajpnhcphngaa

/- within: what the program answers. -/
namespace Go.Proofs.Ytjlajpnhcphngaa
open Go.ChangeShapes Go.WideShapes Go.ChangeAt Go.RowKit
set_option linter.unusedVariables false
set_option maxHeartbeats 400000 in
theorem iwi (x a b : Int) (R : Bool) (HR : Hid (R = inB x a b)) (w : World) : Calls Try.prog 23 #[.int .i64 x, .int .i64 a, .int .i64 b] w fun e w' => e = .returned (.bool R) ∧ w' = w := by
  by_cases h1 : a ≤ x
  · by_cases h2 : x ≤ b
    all_goals
      go_enter Try.func23, Try.ntmps23
      go_wp2_with fail
      go_ret
      exact ⟨ret_bool (by rw [unhide HR]; unfold inB; rw [Bool.eq_iff_iff]; simp <;> omega), rfl⟩
  · go_enter Try.func23, Try.ntmps23
    go_wp2_with fail
    go_ret
    exact ⟨ret_bool (by rw [unhide HR]; unfold inB; rw [Bool.eq_iff_iff]; simp <;> omega), rfl⟩
end Go.Proofs.Ytjlajpnhcphngaa

/- A block that stands, and what is stored into it. -/
namespace Go.Proofs.Ytjlajpnhcphngaa
open Go.ChangeShapes Go.WideShapes Go.ChangeAt Go.RowKit
/-- A block that stands and may be written. -/
structure BF (n : Nat) (cs : Array Value) (wA : World) : Prop where
  S : ∀ o, wA.cell? ⟨n, o, none⟩ = cs[o]?
  F : ∀ o, wA.frozen? ⟨n, o, none⟩ = false
  lt : n < wA.heap.size
theorem BF.keep {n : Nat} {cs : Array Value} {wA w' : World} (h : BF n cs wA) (hs : wA.heap.size ≤ w'.heap.size) (hb : w'.heap[n]? = wA.heap[n]?) : BF n cs w' :=
  ⟨fun o => (World.cell?_of_block hb).trans (h.S o), fun o => (World.frozen?_of_block hb).trans (h.F o), Nat.lt_of_lt_of_le h.lt hs⟩
theorem BF.below {n : Nat} {cs : Array Value} {wA w' : World} (h : BF n cs wA) (hb : Below wA.heap.size wA w') : BF n cs w' := h.keep hb.size (hb.block n h.lt)
theorem BF.alloc {n : Nat} {cs : Array Value} {wA : World} (h : BF n cs wA) (o : Obj) : BF n cs (wA.alloc o) := h.below ((Below.refl _ _).alloc (Nat.le_refl _) o)
theorem BF.grown {n : Nat} {cs : Array Value} {wA w' : World} {row : Option Nat} (h : BF n cs wA) (hg : wA.grownBy w' row) (hne : row ≠ some n) : BF n cs w' := h.keep hg.size (hg.block n h.lt (fun e => hne e.symm))
theorem BF.new (wA : World) (cs : Array Value) (t : TypeId) : BF wA.heap.size cs (wA.alloc (.cells cs t)) := ⟨fun o => World.cell?_alloc_mark wA _ _ _ o, fun o => by simp [go_sem], by simp⟩
theorem BF.set {n : Nat} {cs : Array Value} {wA : World} (h : BF n cs wA) (o : Nat) (ho : o < cs.size) (v : Value) : BF n (cs.setIfInBounds o v) (wA.setCell ⟨n, o, none⟩ v) := by
  refine ⟨fun k => ?_, fun k => by rw [World.frozen?_setCell]; exact h.F k, by simpa using h.lt⟩
  by_cases e : k = o
  · subst e
    have h1 : wA.cell? ⟨n, k, none⟩ = some cs[k] := by rw [h.S k]; exact Array.getElem?_eq_getElem ho
    rw [World.cell?_setCell_same _ _ _ h1, Array.getElem?_setIfInBounds_self_of_lt ho]
  · rw [World.cell?_setCell_other _ _ _ _ (by intro h2; injection h2 with _ h3; exact e h3.symm), h.S k, Array.getElem?_setIfInBounds_ne (Ne.symm e)]
theorem BF.far {n : Nat} {cs : Array Value} {wA : World} (h : BF n cs wA) (a : Addr) (v : Value) (hne : a.block ≠ n) : BF n cs (wA.setCell a v) :=
  ⟨fun k => by rw [World.cell?_setCell_other _ _ _ _ (by intro h2; rw [h2] at hne; exact hne rfl)]; exact h.S k, fun k => by rw [World.frozen?_setCell]; exact h.F k, by simpa using h.lt⟩
theorem BF.drew {n : Nat} {cs : Array Value} {wA : World} (h : BF n cs wA) : BF n cs wA.drew := h.below (Below.refl _ _).drew
end Go.Proofs.Ytjlajpnhcphngaa
