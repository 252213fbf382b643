/- Texts put together: SteM NdM UtM NpM WinI Bf. -/
import Derived.Test.YtpadpgjkpajfaaaZG0
import Derived.Test.YtpadpgjkpajfaaaZG2
/- Which states are right. Plain mathematics. -/
namespace Go.Proofs.Ytpadpgjkpajfaaa
open Go.ChangeShapes Go.WideShapes Go.ChangeAt Go.RowKit
set_option linter.unusedVariables false
abbrev Ent := Int × ByteArray
def entB (p T : Int) (e : Ent) : Bool := inB e.1 p T && decide (e.2.size ≤ 400)
def logB (T : Int) : Int → List Ent → Bool
  | _, [] => true
  | p, e :: l => entB p T e && logB T e.1 l
def stateB (tm vt : Int) (l : List Ent) : Bool := inB tm 0 1000 && inB vt (-1) 4 && decide (l.length ≤ 60) && logB tm 1 l
theorem logB_step (T p : Int) (l : List Ent) (k : Nat) (h : k < l.length) : logB T p (l.drop k) = (entB p T l[k] && logB T l[k].1 (l.drop (k + 1))) := by
  rw [List.drop_eq_getElem_cons h]; rfl
theorem logB_end (T p : Int) (l : List Ent) (k : Nat) (h : l.length ≤ k) : logB T p (l.drop k) = true := by
  rw [List.drop_eq_nil_of_le h]; rfl
theorem st1 {tm vt : Int} {l : List Ent} (h : inB tm 0 1000 = false) : stateB tm vt l = false := by unfold stateB; rw [h]; rfl
theorem st2 {tm vt : Int} {l : List Ent} (h : inB vt (-1) 4 = false) : stateB tm vt l = false := by unfold stateB; rw [h]; simp
theorem st3 {tm vt : Int} {l : List Ent} (h : ¬ l.length ≤ 60) : stateB tm vt l = false := by unfold stateB; rw [decide_eq_false h]; simp
theorem st4 {tm vt : Int} {l : List Ent} (h1 : inB tm 0 1000 = true) (h2 : inB vt (-1) 4 = true) (h3 : l.length ≤ 60) : stateB tm vt l = logB tm 1 l := by unfold stateB; rw [h1, h2, decide_eq_true h3]; rfl
theorem state_parts {tm vt : Int} {l : List Ent} (h : stateB tm vt l = true) : (0 ≤ tm ∧ tm ≤ 1000) ∧ (-1 ≤ vt ∧ vt ≤ 4) ∧ l.length ≤ 60 ∧ logB tm 1 l = true := by
  unfold stateB inB at h; simp at h; exact ⟨h.1.1.1, h.1.1.2, h.1.2, h.2⟩
/-- The term that an entry at place k may not be below. -/
def prevT (l : List Ent) (k : Nat) : Int := if h : k - 1 < l.length ∧ 0 < k then l[k - 1].1 else 1
theorem prevT_zero (l : List Ent) : prevT l 0 = 1 := by unfold prevT; rw [dif_neg (by omega)]
theorem prevT_succ (l : List Ent) (k : Nat) (h : k < l.length) : prevT l (k + 1) = l[k].1 := by unfold prevT; rw [dif_pos ⟨by simpa using h, by omega⟩]; rfl
end Go.Proofs.Ytpadpgjkpajfaaa

/- Which nodes are right. Plain mathematics. -/
namespace Go.Proofs.Ytpadpgjkpajfaaa
open Go.ChangeShapes Go.WideShapes Go.ChangeAt Go.RowKit
set_option linter.unusedVariables false
theorem bdic (b : Bool) : b = false ∨ b = true := by cases b <;> simp
/-- Votes rise, each from q on. -/
def upB (nd : Int) : Int → List Int → Bool
  | _, [] => true
  | q, x :: l => inB x q (nd - 1) && upB nd (x + 1) l
/-- Places of each node. -/
def plB (n : Int) : List Int → List Int → Bool
  | x :: lx, g :: lg => inB x 1 (n + 1) && inB g 0 (x - 1) && plB n lx lg
  | _, _ => true
def roleB (ro : Int) (up : Bool) : Bool := inB ro 0 2 && (up || decide (ro = 0))
def placesB (nd : Int) (n : Int) (lx lg : List Int) : Bool := decide ((lx.length : Int) = nd) && decide ((lg.length : Int) = nd) && plB n lx lg
def nodeB (id nd tm vt ro cm el wt : Int) (up : Bool) (l : List Ent) (lv lx lg : List Int) : Bool :=
  inB nd 1 5 && inB id 0 (nd - 1) && decide (vt < nd) && stateB tm vt l && roleB ro up && inB cm 0 (l.length : Int) && inB el 0 1000 && inB wt 5 100 && upB nd 0 lv && placesB nd (l.length : Int) lx lg
theorem upB_step (nd q : Int) (l : List Int) (k : Nat) (h : k < l.length) : upB nd q (l.drop k) = (inB l[k] q (nd - 1) && upB nd (l[k] + 1) (l.drop (k + 1))) := by
  rw [List.drop_eq_getElem_cons h]; rfl
theorem upB_end (nd q : Int) (l : List Int) (k : Nat) (h : l.length ≤ k) : upB nd q (l.drop k) = true := by
  rw [List.drop_eq_nil_of_le h]; rfl
theorem plB_step (n : Int) (lx lg : List Int) (k : Nat) (h : k < lx.length) (h2 : k < lg.length) : plB n (lx.drop k) (lg.drop k) = (inB lx[k] 1 (n + 1) && inB lg[k] 0 (lx[k] - 1) && plB n (lx.drop (k + 1)) (lg.drop (k + 1))) := by
  rw [List.drop_eq_getElem_cons h, List.drop_eq_getElem_cons h2]; rfl
theorem plB_end (n : Int) (lx lg : List Int) (k : Nat) (h : lx.length ≤ k) : plB n (lx.drop k) (lg.drop k) = true := by
  rw [List.drop_eq_nil_of_le h]; rfl
/-- The least that a vote at place k may be. -/
def prevV (l : List Int) (k : Nat) : Int := if h : k - 1 < l.length ∧ 0 < k then l[k - 1] + 1 else 0
theorem prevV_zero (l : List Int) : prevV l 0 = 0 := by unfold prevV; rw [dif_neg (by omega)]
theorem prevV_succ (l : List Int) (k : Nat) (h : k < l.length) : prevV l (k + 1) = l[k] + 1 := by unfold prevV; rw [dif_pos ⟨by simpa using h, by omega⟩]; rfl
end Go.Proofs.Ytpadpgjkpajfaaa

/- The term at a place, and whether a log is up to date. Plain mathematics. -/
namespace Go.Proofs.Ytpadpgjkpajfaaa
open Go.ChangeShapes Go.WideShapes Go.ChangeAt Go.RowKit
set_option linter.unusedVariables false
/-- The term at place k, counted from 1; that of place 0 is 0. -/
def tAt (l : List Ent) (k : Nat) : Int := if h : 0 < k ∧ k - 1 < l.length then l[k - 1].1 else 0
theorem tAt_zero (l : List Ent) : tAt l 0 = 0 := by unfold tAt; rw [dif_neg (by omega)]
theorem tAt_succ (l : List Ent) (j : Nat) (h : j < l.length) : tAt l (j + 1) = l[j].1 := by unfold tAt; rw [dif_pos ⟨by omega, by simpa using h⟩]; rfl
def utB (n : Int) (T iq tq : Int) : Bool := decide (T < tq) || (decide (tq = T) && decide (n ≤ iq))
end Go.Proofs.Ytpadpgjkpajfaaa

/- How many nodes have a place. Plain mathematics. -/
namespace Go.Proofs.Ytpadpgjkpajfaaa
open Go.ChangeShapes Go.WideShapes Go.ChangeAt Go.RowKit
set_option linter.unusedVariables false
/-- Of the nodes from k on, the node itself left out, how many have place p. -/
def holdA (id p : Int) : Nat → List Int → Nat
  | _, [] => 0
  | k, x :: l => (if (k : Int) ≠ id ∧ p ≤ x then 1 else 0) + holdA id p (k + 1) l
/-- How many have place p, the node itself too. -/
def holds (id p : Int) (l : List Int) : Nat := 1 + holdA id p 0 l
theorem holdA_drop (id p : Int) (l : List Int) (k : Nat) (h : k < l.length) : holdA id p k (l.drop k) = (if (k : Int) ≠ id ∧ p ≤ l[k] then 1 else 0) + holdA id p (k + 1) (l.drop (k + 1)) := by
  rw [List.drop_eq_getElem_cons h]; rfl
theorem holdA_end (id p : Int) (l : List Int) (k : Nat) (h : l.length ≤ k) : holdA id p k (l.drop k) = 0 := by
  rw [List.drop_eq_nil_of_le h]; rfl
theorem holdA_le (id p : Int) : ∀ (l : List Int) (k : Nat), holdA id p k l ≤ l.length
  | [], _ => Nat.le_refl _
  | x :: l, k => by
    have := holdA_le id p l (k + 1)
    unfold holdA
    split <;> simp <;> omega
end Go.Proofs.Ytpadpgjkpajfaaa

/- within: what the program answers. -/
namespace Go.Proofs.Ytpadpgjkpajfaaa
open Go.ChangeShapes Go.WideShapes Go.ChangeAt Go.RowKit
set_option linter.unusedVariables false
set_option maxHeartbeats 400000 in
theorem iwi (x a b : Int) (R : Bool) (HR : Hid (R = inB x a b)) (w : World) : Calls Try.prog 23 #[.int .i64 x, .int .i64 a, .int .i64 b] w fun e w' => e = .returned (.bool R) ∧ w' = w := by
  by_cases h1 : a ≤ x
  · by_cases h2 : x ≤ b
    all_goals
      go_enter Try.func23, Try.ntmps23
      go_wp2_with fail
      go_ret
      exact ⟨ret_bool (by rw [unhide HR]; unfold inB; rw [Bool.eq_iff_iff]; simp <;> omega), rfl⟩
  · go_enter Try.func23, Try.ntmps23
    go_wp2_with fail
    go_ret
    exact ⟨ret_bool (by rw [unhide HR]; unfold inB; rw [Bool.eq_iff_iff]; simp <;> omega), rfl⟩
end Go.Proofs.Ytpadpgjkpajfaaa

/- A block that stands, and what is stored into it. -/
namespace Go.Proofs.Ytpadpgjkpajfaaa
open Go.ChangeShapes Go.WideShapes Go.ChangeAt Go.RowKit
/-- A block that stands and may be written. -/
structure BF (n : Nat) (cs : Array Value) (wA : World) : Prop where
  S : ∀ o, wA.cell? ⟨n, o, none⟩ = cs[o]?
  F : ∀ o, wA.frozen? ⟨n, o, none⟩ = false
  lt : n < wA.heap.size
theorem BF.keep {n : Nat} {cs : Array Value} {wA w' : World} (h : BF n cs wA) (hs : wA.heap.size ≤ w'.heap.size) (hb : w'.heap[n]? = wA.heap[n]?) : BF n cs w' :=
  ⟨fun o => (World.cell?_of_block hb).trans (h.S o), fun o => (World.frozen?_of_block hb).trans (h.F o), Nat.lt_of_lt_of_le h.lt hs⟩
theorem BF.below {n : Nat} {cs : Array Value} {wA w' : World} (h : BF n cs wA) (hb : Below wA.heap.size wA w') : BF n cs w' := h.keep hb.size (hb.block n h.lt)
theorem BF.alloc {n : Nat} {cs : Array Value} {wA : World} (h : BF n cs wA) (o : Obj) : BF n cs (wA.alloc o) := h.below ((Below.refl _ _).alloc (Nat.le_refl _) o)
theorem BF.grown {n : Nat} {cs : Array Value} {wA w' : World} {row : Option Nat} (h : BF n cs wA) (hg : wA.grownBy w' row) (hne : row ≠ some n) : BF n cs w' := h.keep hg.size (hg.block n h.lt (fun e => hne e.symm))
theorem BF.new (wA : World) (cs : Array Value) (t : TypeId) : BF wA.heap.size cs (wA.alloc (.cells cs t)) := ⟨fun o => World.cell?_alloc_mark wA _ _ _ o, fun o => by simp [go_sem], by simp⟩
theorem BF.set {n : Nat} {cs : Array Value} {wA : World} (h : BF n cs wA) (o : Nat) (ho : o < cs.size) (v : Value) : BF n (cs.setIfInBounds o v) (wA.setCell ⟨n, o, none⟩ v) := by
  refine ⟨fun k => ?_, fun k => by rw [World.frozen?_setCell]; exact h.F k, by simpa using h.lt⟩
  by_cases e : k = o
  · subst e
    have h1 : wA.cell? ⟨n, k, none⟩ = some cs[k] := by rw [h.S k]; exact Array.getElem?_eq_getElem ho
    rw [World.cell?_setCell_same _ _ _ h1, Array.getElem?_setIfInBounds_self_of_lt ho]
  · rw [World.cell?_setCell_other _ _ _ _ (by intro h2; injection h2 with _ h3; exact e h3.symm), h.S k, Array.getElem?_setIfInBounds_ne (Ne.symm e)]
theorem BF.far {n : Nat} {cs : Array Value} {wA : World} (h : BF n cs wA) (a : Addr) (v : Value) (hne : a.block ≠ n) : BF n cs (wA.setCell a v) :=
  ⟨fun k => by rw [World.cell?_setCell_other _ _ _ _ (by intro h2; rw [h2] at hne; exact hne rfl)]; exact h.S k, fun k => by rw [World.frozen?_setCell]; exact h.F k, by simpa using h.lt⟩
theorem BF.drew {n : Nat} {cs : Array Value} {wA : World} (h : BF n cs wA) : BF n cs wA.drew := h.below (Below.refl _ _).drew
end Go.Proofs.Ytpadpgjkpajfaaa
