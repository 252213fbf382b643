/- Texts put together: InM CelM VwM EntM SizeB. -/
import Derived.Test.YtblhediekdeffaaDoorZBase
import Derived.Test.YtblhediekdeffaaDoorZG3
import Derived.Test.YtblhediekdeffaaDoorZBitI
import Derived.Test.YtblhediekdeffaaDoorZG2
/- Numbers within bounds, texts of bytes within bounds, runes. Plain mathematics. -/
namespace Go.Proofs.YtblhediekdeffaaDoor
open Go.ChangeShapes Go.WideShapes Go.ChangeAt Go.RowKit
theorem b_true {p : Prop} [Decidable p] (h : p) : true = decide p := (decide_eq_true h).symm
theorem b_false {p : Prop} [Decidable p] (h : ¬ p) : false = decide p := (decide_eq_false h).symm
def inB (n a b : Int) : Bool := decide (a ≤ n ∧ n ≤ b)
def byteIn (c : UInt8) : Bool := inB (c.toNat : Int) 32 126
def allText (t : List UInt8) : Bool := t.all byteIn
def titleB (t : List UInt8) : Bool := decide (t.length ≤ 40) && allText t
def runeB (n : Int) : Bool := decide (32 ≤ n ∧ n ≤ 1114111 ∧ n ≠ 127 ∧ ¬ (55296 ≤ n ∧ n ≤ 57343))
theorem text_len (t : ByteArray) : t.data.toList.length = t.size := by simp
end Go.Proofs.YtblhediekdeffaaDoor

/- Right cells. Plain mathematics. -/
namespace Go.Proofs.YtblhediekdeffaaDoor
open Go.ChangeShapes Go.WideShapes Go.ChangeAt Go.RowKit
def cellB (c : Int × Int) : Bool := runeB c.1 && inB c.2 0 127
theorem all_take {α : Type} {l : List α} {f : α → Bool} (h : ∀ q (hq : q < l.length), f l[q] = true) : l.all f = true := by
  rw [List.all_eq_true]
  intro x hx
  obtain ⟨q, hq, rfl⟩ := List.mem_iff_getElem.1 hx
  exact h q hq
theorem all_bad {α : Type} {l : List α} {f : α → Bool} {q : Nat} (hq : q < l.length) (h : f l[q] = false) : l.all f = false := by
  rw [List.all_eq_false]
  exact ⟨l[q], List.getElem_mem hq, by rw [h]; decide⟩
end Go.Proofs.YtblhediekdeffaaDoor

/- Rows of a view: which are right. Plain mathematics. -/
namespace Go.Proofs.YtblhediekdeffaaDoor
open Go.ChangeShapes Go.WideShapes Go.ChangeAt Go.RowKit
set_option linter.unusedVariables false
/-- The bytes of W right cells. -/
def rowB (W : Nat) (r : ByteArray) : Bool := decide (r.size = 4 * W) && (cells4 r.data.toList W).all cellB
def rowAt (W : Nat) (R : List ByteArray) (k : Nat) : Bool := match R[k]? with | some r => rowB W r | none => false
theorem rowAt_at (W : Nat) (R : List ByteArray) (k : Nat) (h : k < R.length) : rowAt W R k = rowB W R[k] := by unfold rowAt; rw [List.getElem?_eq_getElem h]
/-- Just H rows, each right. -/
def rowsB (W H : Nat) (R : List ByteArray) : Bool := decide (R.length = H) && R.all (rowB W)
theorem rows_set {W : Nat} {R : List ByteArray} {n : Nat} (hn : R.length = n) : decide (bset (rowAt W R) n = 2 ^ n - 1) = R.all (rowB W) := by
  subst hn
  by_cases h : ∀ q (hq : q < R.length), rowB W R[q] = true
  · rw [all_take h, decide_eq_true (bset_all fun i hi => by rw [rowAt_at W R i hi]; exact h i hi)]
  · have h2 : ∃ q, ∃ hq : q < R.length, rowB W R[q] = false := by
      apply Classical.byContradiction
      intro hc
      apply h
      intro q hq
      cases hb : rowB W R[q]
      · exact absurd ⟨q, hq, hb⟩ hc
      · rfl
    obtain ⟨q, hq, hb⟩ := h2
    rw [all_bad hq hb, decide_eq_false]
    exact Nat.ne_of_lt (bset_less hq (by rw [rowAt_at W R q hq]; exact hb))
theorem rowB_len {W : Nat} {r : ByteArray} (h : r.size ≠ 4 * W) : rowB W r = false := by unfold rowB; rw [decide_eq_false h]; rfl
theorem rowB_yes {W : Nat} {r : ByteArray} (h : r.size = 4 * W) (h2 : ∀ q (hq : q < (cells4 r.data.toList W).length), cellB (cells4 r.data.toList W)[q] = true) : rowB W r = true := by unfold rowB; rw [decide_eq_true h, all_take h2]; rfl
theorem rowB_no {W : Nat} {r : ByteArray} {q : Nat} (hq : q < (cells4 r.data.toList W).length) (h : cellB (cells4 r.data.toList W)[q] = false) : rowB W r = false := by unfold rowB; rw [all_bad hq h, Bool.and_false]
theorem rowB_noD {W : Nat} {r : ByteArray} {d : List UInt8} {q : Nat} (hd : d = r.data.toList) (hq : q < (cells4 d W).length) (h : cellB (cells4 d W)[q] = false) : rowB W r = false := by subst hd; exact rowB_no hq h
end Go.Proofs.YtblhediekdeffaaDoor

/- Rows of entries: a number and a text, two cells each. -/
namespace Go.Proofs.YtblhediekdeffaaDoor
open Go.ChangeShapes Go.WideShapes Go.ChangeAt Go.RowKit
def cE (l : List (Int × ByteArray)) : List Value := l.flatMap fun c => [.int .i64 c.1, .string c.2]
theorem cE_cons (c : Int × ByteArray) (l : List (Int × ByteArray)) : cE (c :: l) = .int .i64 c.1 :: .string c.2 :: cE l := rfl
theorem cE_len (l : List (Int × ByteArray)) : (cE l).length = l.length * 2 := by
  induction l with
  | nil => rfl
  | cons c l ih => rw [cE_cons]; simp [ih]; omega
theorem cE_at (l : List (Int × ByteArray)) : ∀ (k : Nat) (h : k < l.length), (cE l)[k * 2]? = some (.int .i64 l[k].1) ∧ (cE l)[k * 2 + 1]? = some (.string l[k].2) := by
  induction l with
  | nil => intro k h; simp at h
  | cons c l ih =>
    intro k h
    cases k with
    | zero => exact ⟨rfl, rfl⟩
    | succ k =>
      have := ih k (by simpa using h)
      rw [cE_cons, show (k + 1) * 2 = k * 2 + 1 + 1 from by omega]
      simpa using this
theorem cE_app (l m : List (Int × ByteArray)) : cE (l ++ m) = cE l ++ cE m := by simp [cE]
/-- The first k entries, the others still nought. -/
def fillE (l : List (Int × ByteArray)) (k : Nat) : List (Int × ByteArray) := l.take k ++ List.replicate (l.length - k) (0, ⟨#[]⟩)
theorem row_ent {w : World} {b off : Nat} {l : List (Int × ByteArray)} (hc : ∀ i u, (cE l)[i]? = some u → w.cell? ⟨b, off + i, none⟩ = some u) (k : Nat) (h : k < l.length) :
    w.cell? ⟨b, off + k * 2, none⟩ = some (.int .i64 l[k].1) ∧ w.cell? ⟨b, off + k * 2 + 1, none⟩ = some (.string l[k].2) :=
  ⟨hc _ _ (cE_at l k h).1, hc _ _ (cE_at l k h).2⟩
end Go.Proofs.YtblhediekdeffaaDoor

/- sizeOK: a screen's size. -/
namespace Go.Proofs.YtblhediekdeffaaDoor
open Go.ChangeShapes Go.WideShapes Go.ChangeAt Go.RowKit
def sizeB (w h : Int) : Bool := decide (2 ≤ w ∧ w ≤ 24 ∧ 2 ≤ h ∧ h ≤ 10)
set_option maxHeartbeats 400000 in
theorem isize (w0 h0 : Int) (w : World) : Calls Tryd.prog 43 #[.int .i64 w0, .int .i64 h0] w fun e w' => e = .returned (.bool (sizeB w0 h0)) ∧ w' = w := by
  have e : sizeB w0 h0 = (decide (2 ≤ w0) && (decide (w0 ≤ 24) && (decide (2 ≤ h0) && decide (h0 ≤ 10)))) := by unfold sizeB; simp only [Bool.decide_and]
  rw [e]
  clear e
  by_cases h1 : 2 ≤ w0
  · by_cases h2 : w0 ≤ 24
    · by_cases h3 : 2 ≤ h0
      · by_cases h4 : h0 ≤ 10
        all_goals
          go_enter Tryd.func43, Tryd.ntmps43
          go_wp2_with fail
          go_ret
          exact ⟨ret_bool (by simp [*] <;> omega), rfl⟩
      · go_enter Tryd.func43, Tryd.ntmps43
        go_wp2_with fail
        go_ret
        exact ⟨ret_bool (by simp [*] <;> omega), rfl⟩
    · go_enter Tryd.func43, Tryd.ntmps43
      go_wp2_with fail
      go_ret
      exact ⟨ret_bool (by simp [*] <;> omega), rfl⟩
  · go_enter Tryd.func43, Tryd.ntmps43
    go_wp2_with fail
    go_ret
    exact ⟨ret_bool (by simp [*] <;> omega), rfl⟩
end Go.Proofs.YtblhediekdeffaaDoor
