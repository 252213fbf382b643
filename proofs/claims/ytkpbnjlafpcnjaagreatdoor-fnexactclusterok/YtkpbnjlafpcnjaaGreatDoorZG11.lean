/- Texts put together: RvM ComM SamM FlM. -/
import Derived.Test.YtkpbnjlafpcnjaaGreatDoorZG9
import Derived.Test.YtkpbnjlafpcnjaaGreatDoorZG5
import Derived.Test.YtkpbnjlafpcnjaaGreatDoorZG10
import Derived.Test.YtkpbnjlafpcnjaaGreatDoorZG1
import Derived.Test.YtkpbnjlafpcnjaaGreatDoorZG0
import Derived.Lib.SmallJoins
/- What a store's records make, from the beginning on. Plain mathematics. -/
namespace Go.Proofs.YtkpbnjlafpcnjaaGreatDoor
open Go.ChangeShapes Go.WideShapes Go.ChangeAt Go.RowKit
set_option linter.unusedVariables false
/-- What records make of a state, one by one. -/
def apAll : Int × Int × List Ent → List ByteArray → Option (Int × Int × List Ent)
 | s, [] => some s
 | s, d :: r => match apF s.1 s.2.1 s.2.2 d with
  | none => none
  | some s2 => apAll s2 r
theorem apAll_no {tm vt : Int} {l : List Ent} {d : ByteArray} {r : List ByteArray} (h : apF tm vt l d = none) : apAll (tm, vt, l) (d :: r) = none := by simp only [apAll, h]
theorem apAll_yes {tm vt : Int} {l : List Ent} {d : ByteArray} {r : List ByteArray} {s2 : Int × Int × List Ent} (h : apF tm vt l d = some s2) : apAll (tm, vt, l) (d :: r) = apAll s2 r := by simp only [apAll, h]
theorem apF_right {tm vt tm2 vt2 : Int} {l l2 : List Ent} {t : ByteArray} (h : apF tm vt l t = some (tm2, vt2, l2)) : stateB tm2 vt2 l2 = true := by
 unfold apF at h
 split at h
 ·split at h
  ·rename_i h4 h5
   injection h with h; injection h with e1 h; injection h with e2 e3
   subst e1 e2 e3
   exact h5.1
  ·cases h
 ·cases h
theorem apAll_right : ∀ (r : List ByteArray) (tm vt : Int) (l : List Ent) (tm2 vt2 : Int) (l2 : List Ent), stateB tm vt l = true → apAll (tm, vt, l) r = some (tm2, vt2, l2) → stateB tm2 vt2 l2 = true
 | [], tm, vt, l, tm2, vt2, l2, h, he => by
  injection he with he; injection he with e1 he; injection he with e2 e3
  subst e1 e2 e3; exact h
 | d :: r, tm, vt, l, tm2, vt2, l2, h, he => by
  cases hF : apF tm vt l d with
  | none => rw [apAll_no hF] at he; cases he
  | some q =>
   obtain ⟨a, b, c⟩ := q
   rw [apAll_yes hF] at he
   exact apAll_right r a b c tm2 vt2 l2 (apF_right hF) he
theorem logB_sz : ∀ (l : List Ent) (T p : Int), logB T p l = true → ∀ k (h : k < l.length), l[k].2.size ≤ 400
 | [], _, _, _, k, h => absurd h (by simp)
 | e :: l, T, p, hb, k, h => by
  unfold logB at hb
  simp only [Bool.and_eq_true] at hb
  cases k with
  | zero => have := hb.1; unfold entB at this; simp at this; simpa using this.2
  | succ k => simpa using logB_sz l T e.1 hb.2 k (by simpa using h)
theorem state_sz {tm vt : Int} {l : List Ent} (h : stateB tm vt l = true) : ∀ k (h : k < l.length), l[k].2.size ≤ 1048576 := fun k hk => by
 have := logB_sz l tm 1 (state_parts h).2.2.2 k hk
 omega
/-- How many bytes frames of these data are. -/
def szs : List ByteArray → Nat
 | [] => 0
 | d :: r => 7 + d.size + szs r
theorem frD_size (l : List UInt8) (h : frC l = 0) : (⟨(frD l).toArray⟩ : ByteArray).size = frN l := by
 rw [← frD_len h]; rfl
theorem frs_szs : ∀ (f : Nat) (l : List UInt8), (frs f l).2.1 = szs (frs f l).1
 | 0, l => by simp [frs, szs]
 | f + 1, l => by
  by_cases h0 : l = []
  ·subst h0; rw [frs_nil]; rfl
  ·by_cases h1 : frC l = 0
   ·rw [frs_step f h0 h1]
    show 7 + frN l + (frs f (frT l)).2.1 = 7 + (⟨(frD l).toArray⟩ : ByteArray).size + szs (frs f (frT l)).1
    rw [frD_size l h1, frs_szs f (frT l)]
   ·rw [frs_bad f h0 h1]; rfl
theorem frs_small : ∀ (f : Nat) (l : List UInt8), ∀ d ∈ (frs f l).1, d.size ≤ 65536
 | 0, l => by simp [frs]
 | f + 1, l => by
  by_cases h0 : l = []
  ·subst h0; rw [frs_nil]; simp
  ·by_cases h1 : frC l = 0
   ·rw [frs_step f h0 h1]
    intro d hd
    rcases List.mem_cons.1 hd with rfl | hd
    ·rw [frD_size l h1]; exact (frC_ok h1).2.2.1
    ·exact frs_small f (frT l) d hd
   ·rw [frs_bad f h0 h1]; simp
theorem frs_in : ∀ (f : Nat) (l : List UInt8), (frs f l).2.1 ≤ l.length
 | 0, l => by simp [frs]
 | f + 1, l => by
  by_cases h0 : l = []
  ·subst h0; rw [frs_nil]; simp
  ·by_cases h1 : frC l = 0
   ·rw [frs_step f h0 h1]
    have h2 := frs_in f (frT l)
    have h3 := frT_len h1
    show 7 + frN l + (frs f (frT l)).2.1 ≤ _
    omega
   ·rw [frs_bad f h0 h1]; simp
/-- What Recover answers. -/
def RvIs (d : ByteArray) (s : Int) (tm vt : Int) (l : List Ent) (d2 : ByteArray) (s2 c : Int) : Prop :=
 if stoB d s = false then (tm, vt, l, d2, s2, c) = (0, 0, [], ⟨#[]⟩, 0, 1)
 else if (frs d.size d.data.toList).2.2 = 8 then (tm, vt, l, d2, s2, c) = (0, 0, [], ⟨#[]⟩, 0, 8)
 else match apAll (0, -1, []) (frs d.size d.data.toList).1 with
  | none => (tm, vt, l, d2, s2, c) = (0, 0, [], ⟨#[]⟩, 0, 3)
  | some (tm2, vt2, l2) => (tm, vt, l, d2, s2, c) = (tm2, vt2, l2, d.extract 0 (frs d.size d.data.toList).2.1, ((frs d.size d.data.toList).2.1 : Int), 0)
theorem state0 : stateB 0 (-1) [] = true := by decide
theorem rv_ex (d : ByteArray) (s : Int) : ∃ tm vt l d2 s2 c, RvIs d s tm vt l d2 s2 c ∧ l.length ≤ 60 := by
 by_cases h1 : stoB d s = false
 ·exact ⟨0, 0, [], ⟨#[]⟩, 0, 1, by unfold RvIs; rw [if_pos h1], by decide⟩
 ·by_cases h2 : (frs d.size d.data.toList).2.2 = 8
  ·exact ⟨0, 0, [], ⟨#[]⟩, 0, 8, by unfold RvIs; rw [if_neg h1, if_pos h2], by decide⟩
  ·cases hF : apAll (0, -1, []) (frs d.size d.data.toList).1 with
   | none => exact ⟨0, 0, [], ⟨#[]⟩, 0, 3, by unfold RvIs; rw [if_neg h1, if_neg h2, hF], by decide⟩
   | some q =>
    obtain ⟨tm2, vt2, l2⟩ := q
    exact ⟨tm2, vt2, l2, _, _, 0, by unfold RvIs; rw [if_neg h1, if_neg h2, hF], (state_parts (apAll_right _ _ _ _ _ _ _ state0 hF)).2.2.1⟩
theorem own_ne2 {w : World} {base : Nat} {e : TypeId} {v : Value} {m : Nat} {xs : List Value} (h : w.ownsRow base e 2 v m xs) {p : Nat} {u0 u1 u2 : Value} (hp : BF p #[u0, u1, u2] w) : v.ownBlock ≠ some p := by
 intro hb
 rcases h.2 with ⟨h0, _⟩ | ⟨g, cap', cur, hv, hbg, hg, hnc, hcm, hcs, htake⟩
 ·rw [h0] at hb; cases hb
 ·rw [hv] at hb
  have e1 : g = p := Option.some.inj hb
  subst e1
  have h2 := hp.S 2
  have h3 := hp.S 3
  simp [World.cell?, hg] at h2 h3
  obtain ⟨h4, -⟩ := Array.getElem?_eq_some_iff.1 h2
  omega
end Go.Proofs.YtkpbnjlafpcnjaaGreatDoor

/- Entries that two logs have alike from the front on. Plain mathematics. -/
namespace Go.Proofs.YtkpbnjlafpcnjaaGreatDoor
open Go.ChangeShapes Go.WideShapes Go.ChangeAt Go.RowKit
def comN : List Ent → List Ent → Nat
 | e :: l, f :: m => if e = f then comN l m + 1 else 0
 | _, _ => 0
theorem comN_step {l m : List Ent} {k : Nat} (h1 : k < l.length) (h2 : k < m.length) (h : l[k] = m[k]) : comN (l.drop k) (m.drop k) = comN (l.drop (k + 1)) (m.drop (k + 1)) + 1 := by
 rw [List.drop_eq_getElem_cons h1, List.drop_eq_getElem_cons h2, comN, if_pos h]
theorem comN_stop {l m : List Ent} {k : Nat} (h1 : k < l.length) (h2 : k < m.length) (h : l[k] ≠ m[k]) : comN (l.drop k) (m.drop k) = 0 := by
 rw [List.drop_eq_getElem_cons h1, List.drop_eq_getElem_cons h2, comN, if_neg h]
theorem comN_nil1 (l m : List Ent) (k : Nat) (h : l.length ≤ k) : comN (l.drop k) (m.drop k) = 0 := by
 rw [List.drop_eq_nil_of_le h]; rfl
theorem comN_nil2 (l m : List Ent) (k : Nat) (h : m.length ≤ k) : comN (l.drop k) (m.drop k) = 0 := by
 rw [List.drop_eq_nil_of_le h]; cases l.drop k <;> rfl
theorem comN_eq (l m : List Ent) (hl : l.length = m.length) : comN l m = l.length ↔ l = m := by
 induction l generalizing m with
 | nil => cases m with
  | nil => simp [comN]
  | cons f m => simp at hl
 | cons e l ih =>
  cases m with
  | nil => simp at hl
  | cons f m =>
   have := ih m (by simpa using hl)
   unfold comN; split
   ·rename_i h; subst h; simp [this]
   ·rename_i h; simp [h]
end Go.Proofs.YtkpbnjlafpcnjaaGreatDoor

/- States held against each other. Plain mathematics. -/
namespace Go.Proofs.YtkpbnjlafpcnjaaGreatDoor
open Go.ChangeShapes Go.WideShapes Go.ChangeAt Go.RowKit
set_option linter.unusedVariables false
def SameIs (tm vt : Int) (l : List Ent) (tm2 vt2 : Int) (m : List Ent) (R : Bool) (c : Int) : Prop :=
 (stateB tm vt l = true ∧ stateB tm2 vt2 m = true ∧ R = decide (tm = tm2 ∧ vt = vt2 ∧ l = m) ∧ c = 0) ∨ ((stateB tm vt l = false ∨ (stateB tm vt l = true ∧ stateB tm2 vt2 m = false)) ∧ R = false ∧ c = 1)
theorem sm1 {tm tm2 vt vt2 : Int} {l m : List Ent} (h : ¬ tm = tm2) : decide (tm = tm2 ∧ vt = vt2 ∧ l = m) = false := decide_eq_false fun x => h x.1
theorem sm2 {tm tm2 vt vt2 : Int} {l m : List Ent} (h : ¬ vt = vt2) : decide (tm = tm2 ∧ vt = vt2 ∧ l = m) = false := decide_eq_false fun x => h x.2.1
theorem sm4 {tm vt : Int} {l m : List Ent} : decide (tm = tm ∧ vt = vt ∧ l = m) = decide (l = m) := by simp
end Go.Proofs.YtkpbnjlafpcnjaaGreatDoor

/- Rows of records: each element is so many cells; rows in a heap, all apart. Plain mathematics. -/
namespace Go.Proofs.YtkpbnjlafpcnjaaGreatDoor
open Go.ChangeShapes Go.WideShapes Go.ChangeAt Go.RowKit
set_option linter.unusedVariables false
section
variable {A : Type} {c : A → List Value} {z : Nat}
theorem flat_len (hz : ∀ p, (c p).length = z) (L : List A) : (L.flatMap c).length = L.length * z := by
 induction L with
 | nil => simp
 | cons p L ih => rw [List.flatMap_cons, List.length_append, ih, hz, List.length_cons, Nat.succ_mul, Nat.add_comm]
theorem flat_at (hz : ∀ p, (c p).length = z) (L : List A) (k : Nat) (h : k < L.length) (j : Nat) (hj : j < z) : (L.flatMap c)[k * z + j]? = (c L[k])[j]? := by
 induction L generalizing k with
 | nil => simp at h
 | cons p L ih =>
  rw [List.flatMap_cons]
  cases k with
  | zero => rw [Nat.zero_mul, Nat.zero_add, List.getElem?_append_left (by rw [hz]; exact hj)]; rfl
  | succ k =>
   have e : (k + 1) * z + j = z + (k * z + j) := by rw [Nat.succ_mul]; omega
   rw [e, List.getElem?_append_right (by rw [hz]; omega), hz, Nat.add_sub_cancel_left, ih k (by simpa using h)]
   rfl
/-- us in the place of what stands from o on. -/
def putA (xs : List Value) (o : Nat) (us : List Value) : List Value := xs.take o ++ us ++ xs.drop (o + us.length)
theorem putA_nil (xs : List Value) (o : Nat) : putA xs o [] = xs := by simp [putA]
theorem putA_cons (xs : List Value) (o : Nat) (u : Value) (us : List Value) (h : o < xs.length) : putA (xs.set o u) (o + 1) us = putA xs o (u :: us) := by
 unfold putA
 have e1 : (xs.set o u).take (o + 1) = xs.take o ++ [u] := by
  rw [List.take_add_one, List.take_set_of_le (Nat.le_refl _), List.getElem?_set_self h]; rfl
 have e2 : (xs.set o u).drop (o + 1 + us.length) = xs.drop (o + (u :: us).length) := by
  rw [List.drop_set_of_lt (by omega)]; congr 1; simp; omega
 rw [e1, e2]; simp
/-- us stored one behind the other from o on. -/
def setsA (xs : List Value) : Nat → List Value → List Value
 | _, [] => xs
 | o, u :: us => setsA (xs.set o u) (o + 1) us
theorem setsA_put (xs : List Value) (o : Nat) (us : List Value) (h : o + us.length ≤ xs.length) : setsA xs o us = putA xs o us := by
 induction us generalizing xs o with
 | nil => rw [setsA, putA_nil]
 | cons u us ih =>
  rw [setsA, ih _ _ (by simp at h ⊢; omega), putA_cons _ _ _ _ (by simp at h; omega)]
theorem flat_put (hz : ∀ p, (c p).length = z) (L : List A) (k : Nat) (h : k < L.length) (p : A) : putA (L.flatMap c) (k * z) (c p) = (L.set k p).flatMap c := by
 induction L generalizing k with
 | nil => simp at h
 | cons q L ih =>
  unfold putA
  rw [hz]
  cases k with
  | zero =>
   rw [Nat.zero_mul, List.take_zero, List.set_cons_zero, List.flatMap_cons, List.flatMap_cons, Nat.zero_add, List.drop_append_of_le_length (by rw [hz]; exact Nat.le_refl _), List.drop_of_length_le (by rw [hz]; exact Nat.le_refl _)]
   simp
  | succ k =>
   have := ih k (by simpa using h)
   unfold putA at this
   rw [hz] at this
   rw [List.set_cons_succ, List.flatMap_cons, List.flatMap_cons, ← this]
   have e : (k + 1) * z = z + k * z := by rw [Nat.succ_mul]; omega
   rw [e, List.take_append, List.drop_append, hz, show z + k * z - z = k * z from by omega, show z + k * z + z - z = k * z + z from by omega, List.take_of_length_le (by rw [hz]; omega), List.drop_of_length_le (by rw [hz]; omega)]
   simp
end
theorem own_eq {w : World} {lo : Nat} {e : TypeId} {z : Nat} {v : Value} {n : Nat} {xs ys : List Value} (h : w.ownsRow lo e z v n xs) (he : xs = ys) : w.ownsRow lo e z v n ys := he ▸ h
/-- A row in the heap. -/
structure RD where
 t : TypeId
 z : Nat
 v : Value
 n : Nat
 xs : List Value
def RD.own (w : World) (lo : Nat) (r : RD) : Prop := w.ownsRow lo r.t r.z r.v r.n r.xs
/-- Rows that a call owns, all apart. -/
structure FOwn (w : World) (lo : Nat) (F : List RD) : Prop where
 own : ∀ r ∈ F, r.own w lo
 apart : F.Pairwise (fun r s => ∀ j, r.v.ownBlock = some j → s.v.ownBlock ≠ some j)
theorem FOwn.nil (w : World) (lo : Nat) : FOwn w lo [] := ⟨fun r h => (by cases h), List.Pairwise.nil⟩
theorem FOwn.one {w : World} {lo : Nat} {r : RD} (h : r.own w lo) : FOwn w lo [r] := ⟨fun s hs => (by have e := List.mem_singleton.1 hs; subst e; exact h), by simp⟩
theorem FOwn.below {w w' : World} {lo : Nat} {F : List RD} (h : FOwn w lo F) (hb : Below w.heap.size w w') : FOwn w' lo F :=
 ⟨fun r hr => ((heldZ_of (h.own r hr)).below hb (Nat.le_refl _)).own, h.apart⟩
theorem FOwn.low {w : World} {lo lo2 : Nat} {F : List RD} (h : FOwn w lo F) (hb : lo2 ≤ lo) : FOwn w lo2 F :=
 ⟨fun r hr => Go.Joins.ownsRow_le (h.own r hr) hb, h.apart⟩
theorem FOwn.lt {w : World} {lo : Nat} {F : List RD} (h : FOwn w lo F) : ∀ r ∈ F, ∀ j, r.v.ownBlock = some j → lo ≤ j ∧ j < w.heap.size := fun r hr j hj => (show w.ownsRow lo r.t r.z r.v r.n r.xs from h.own r hr).lt j hj
/-- Rows of before and rows that were made behind m. -/
theorem FOwn.app {w : World} {lo m : Nat} {F G : List RD} (h1 : FOwn w lo F) (h2 : FOwn w m G) (hlo : lo ≤ m) (hm : ∀ r ∈ F, ∀ j, r.v.ownBlock = some j → j < m) : FOwn w lo (F ++ G) := by
 refine ⟨fun r hr => ?_, ?_⟩
 ·rcases List.mem_append.1 hr with hr | hr
  ·exact h1.own r hr
  ·exact Go.Joins.ownsRow_le (h2.own r hr) hlo
 ·rw [List.pairwise_append]
  refine ⟨h1.apart, h2.apart, fun r hr s hs j hj e => ?_⟩
  have a := hm r hr j hj
  have b := (h2.lt s hs j e).1
  omega
theorem FOwn.left {w : World} {lo : Nat} {F G : List RD} (h : FOwn w lo (F ++ G)) : FOwn w lo F := ⟨fun r hr => h.own r (List.mem_append_left _ hr), (List.pairwise_append.1 h.apart).1⟩
theorem FOwn.right {w : World} {lo : Nat} {F G : List RD} (h : FOwn w lo (F ++ G)) : FOwn w lo G := ⟨fun r hr => h.own r (List.mem_append_right _ hr), (List.pairwise_append.1 h.apart).2.1⟩
/-- A store into a block below them all. -/
theorem FOwn.setC {w : World} {lo : Nat} {F : List RD} (h : FOwn w lo F) {a : Addr} (ha : a.block < lo) (u : Value) : FOwn (w.setCell a u) lo F :=
 ⟨fun r hr => ownsRow_setCell_below (h.own r hr) ha u, h.apart⟩
/-- A row of theirs turns, the others stand. -/
theorem FOwn.turn {w w' : World} {lo : Nat} {F G : List RD} {r s : RD} (h : FOwn w lo (F ++ r :: G)) (hg : w.grownBy w' r.v.ownBlock) (hs : s.own w' lo) (hv : s.v.ownBlock = r.v.ownBlock) : FOwn w' lo (F ++ s :: G) := by
 have hp := List.pairwise_append.1 h.apart
 have hq := List.pairwise_cons.1 hp.2.1
 have keep : ∀ q : RD, q.own w lo → (∀ j, q.v.ownBlock = some j → r.v.ownBlock ≠ some j) → q.own w' lo := fun q hq hn => by
  refine (show w.ownsRow lo q.t q.z q.v q.n q.xs from hq).kept hg ?_
  cases hb : q.v.ownBlock with
  | none => exact .inl rfl
  | some j => exact .inr fun e => hn j hb e.symm
 refine ⟨fun q hq' => ?_, ?_⟩
 ·rcases List.mem_append.1 hq' with h1 | h1
  ·exact keep q (h.own q (List.mem_append_left _ h1)) fun j hj e => hp.2.2 q h1 r (List.mem_cons_self ..) j hj e
  ·rcases List.mem_cons.1 h1 with rfl | h1
   ·exact hs
   ·exact keep q (h.own q (List.mem_append_right _ (List.mem_cons_of_mem _ h1))) fun j hj e => hq.1 q h1 j e hj
 ·rw [List.pairwise_append, List.pairwise_cons]
  refine ⟨hp.1, ⟨fun q h1 j hj => hq.1 q h1 j (hv ▸ hj), hq.2⟩, fun q h1 p h2 j hj => ?_⟩
  rcases List.mem_cons.1 h2 with rfl | h2
  ·rw [hv]; exact hp.2.2 q h1 r (List.mem_cons_self ..) j hj
  ·exact hp.2.2 q h1 p (List.mem_cons_of_mem _ h2) j hj
end Go.Proofs.YtkpbnjlafpcnjaaGreatDoor
