/- Texts put together: InM InS WkS. -/
import Derived.Test.YtgnecacoehedkaaDoorZG0
import Derived.Test.YtgnecacoehedkaaDoorZAtJ
import Derived.Test.YtgnecacoehedkaaDoorZG6
/- Numbers within bounds, texts of bytes within bounds, runes. Plain mathematics. -/
namespace Go.Proofs.YtgnecacoehedkaaDoor
open Go.ChangeShapes Go.WideShapes Go.ChangeAt Go.RowKit
theorem b_true {p : Prop} [Decidable p] (h : p) : true = decide p := (decide_eq_true h).symm
theorem b_false {p : Prop} [Decidable p] (h : ¬ p) : false = decide p := (decide_eq_false h).symm
def inB (n a b : Int) : Bool := decide (a ≤ n ∧ n ≤ b)
theorem in_yes {n a b : Int} (h : a ≤ n ∧ n ≤ b) : inB n a b = true := decide_eq_true h
def byteIn (c : UInt8) : Bool := inB (c.toNat : Int) 32 126
def allText (t : List UInt8) : Bool := t.all byteIn
def titleB (t : List UInt8) : Bool := decide (t.length ≤ 40) && allText t
def runeB (n : Int) : Bool := decide (32 ≤ n ∧ n ≤ 1114111 ∧ n ≠ 127 ∧ ¬ (55296 ≤ n ∧ n ≤ 57343))
end Go.Proofs.YtgnecacoehedkaaDoor

/- l01In, l03RuneOK: what the specification answers. -/
namespace Go.Proofs.YtgnecacoehedkaaDoor
open Go.ChangeShapes Go.WideShapes Go.ChangeAt Go.RowKit
set_option linter.unusedVariables false
set_option maxHeartbeats 400000 in
set_option maxRecDepth 100000 in
theorem sin (n a b : Int) (w : World) : Calls Tryd.prog 21 #[.int .i64 n, .int .i64 a, .int .i64 b] w fun e w' => e = .returned (.bool (inB n a b)) ∧ w' = w := by
 by_cases h : a ≤ n
 ·by_cases h2 : n ≤ b
  ·go_enter Tryd.func21, Tryd.ntmps21
   go_wp2_with fail
   go_ret
   exact ⟨ret_bool (b_true ⟨h, h2⟩), rfl⟩
  ·go_enter Tryd.func21, Tryd.ntmps21
   go_wp2_with fail
   go_ret
   exact ⟨ret_bool (b_false (by omega)), rfl⟩
 ·go_enter Tryd.func21, Tryd.ntmps21
  go_wp2_with fail
  go_ret
  exact ⟨ret_bool (b_false (by omega)), rfl⟩
end Go.Proofs.YtgnecacoehedkaaDoor

/- l05Parts, l05Walk: what the specification answers. -/
namespace Go.Proofs.YtgnecacoehedkaaDoor
open Go.ChangeShapes Go.WideShapes Go.ChangeAt Go.RowKit
attribute [local go_sem ↓] run_mn
attribute [local go_sem ↓] run_mx
/-- A split's size, as the specification takes it. -/
def szC (s : Int) : Int := mx 0 (mn s 1000)
theorem szC_bd (s : Int) : 0 ≤ szC s ∧ szC s ≤ 1000 := by unfold szC mx mn; split <;> split <;> omega
theorem szC_id {s : Int} (h : 0 ≤ s ∧ s ≤ 1000) : szC s = s := by unfold szC mx mn; split <;> split <;> omega
set_option maxHeartbeats 400000 in
set_option maxRecDepth 100000 in
theorem sparts (p : Pt) (W H : Int) (hW : -2000 ≤ W ∧ W ≤ 2000) (hH : -2000 ≤ H ∧ H ≤ 2000) (w : World) :
  Calls Tryd.prog 35 #[.agg #[.int .i64 p.pane, .bool p.rows, .int .i64 p.size, .int .i64 p.left, .int .i64 p.right], .int .i64 W, .int .i64 H] w fun e w' =>
   e = .returned (if p.rows then .tuple #[.int .i64 W, .int .i64 (szC p.size), .int .i64 W, .int .i64 (H - szC p.size)] else .tuple #[.int .i64 (szC p.size), .int .i64 H, .int .i64 (W - szC p.size), .int .i64 H]) ∧ Below w.heap.size w w' := by
 obtain ⟨z, hz⟩ : ∃ z, z = szC p.size := ⟨_, rfl⟩
 have hz1 := szC_bd p.size
 rw [← hz] at hz1 ⊢
 have hz2 : mx 0 (mn p.size 1000) = z := hz.symm
 have e1 : IntKind.i64.wrap (H - z) = H - z := wrapi _ (by omega) (by omega)
 have e2 : IntKind.i64.wrap (W - z) = W - z := wrapi _ (by omega) (by omega)
 clear hz
 cases hp : p.rows
 ·go_enter Tryd.func35, Tryd.ntmps35
  go_wp2_with fail
  refine bodyPost_ret (v := .tuple #[.int .i64 z, .int .i64 H, .int .i64 (W - z), .int .i64 H]) (by simp [results, Tryd.results35, go_sem]) rfl ⟨rfl, Go.Joins.below_alloc1 w _⟩
 ·go_enter Tryd.func35, Tryd.ntmps35
  go_wp2_with fail
  refine bodyPost_ret (v := .tuple #[.int .i64 W, .int .i64 z, .int .i64 W, .int .i64 (H - z)]) (by simp [results, Tryd.results35, go_sem]) rfl ⟨rfl, Go.Joins.below_alloc1 w _⟩
/-- Where the tree that stands at place k ends, if it fits. -/
def wk (f : Nat) (l : List Pt) (k : Nat) (W H : Int) : Option Nat :=
 match prs f l k with
 | none => none
 | some t => if t.fits W H = true then some (k + t.cnt) else none
def wkT (e : Ending) : Option Nat → Prop
 | none => ∃ x : Int, e = .returned (.tuple #[.int .i64 x, .bool false])
 | some n => e = .returned (.tuple #[.int .i64 (n : Int), .bool true])
theorem wk_none {f : Nat} {l : List Pt} {k : Nat} {W H : Int} (h : prs f l k = none) : wk f l k W H = none := by unfold wk; rw [h]
theorem wk_small {f : Nat} {l : List Pt} {k : Nat} {W H : Int} (h : ¬ (2 ≤ W ∧ 2 ≤ H)) : wk f l k W H = none := by
 unfold wk
 cases prs f l k with
 | none => rfl
 | some t => simp only; rw [if_neg (fun e => h (fits_two t W H e))]
theorem prs_leaf {f : Nat} {l : List Pt} {k : Nat} {p : Pt} (h : l[k]? = some p) (h1 : p.left = -1) : prs (f + 1) l k = if p.right = -1 ∧ p.rows = false ∧ p.size = 0 ∧ pnB p.pane = true then some (.pane p.pane) else none := by
 by_cases h0 : p.pane = 0
 ·have hn : pnB p.pane = false := by rw [h0]; decide
  rw [if_neg (fun e => by rw [hn] at e; cases e.2.2.2), prs, h]
  simp only
  rw [if_neg (fun e => e h0)]
  cases prs f l (k + 1) with
  | none => rfl
  | some a =>
   simp only
   cases prs f l (k + 1 + a.cnt) with
   | none => rfl
   | some b => simp only; rw [if_neg (fun e => by rw [h1] at e; omega)]
 ·rw [prs_pane h h0]
  by_cases hq : p.right = -1 ∧ p.rows = false ∧ p.size = 0 ∧ pnB p.pane = true
  ·rw [if_pos hq, if_pos ⟨by unfold pnQ; simp [h1, hq.1, hq.2.1, hq.2.2.1], hq.2.2.2⟩]
  ·rw [if_neg hq, if_neg]
   rintro ⟨e, e2⟩
   have e' := (pnQ_iff p).1 e
   exact hq ⟨by rw [e']; rfl, by rw [e']; rfl, by rw [e']; rfl, e2⟩
theorem prs_bad {f : Nat} {l : List Pt} {k : Nat} {p : Pt} (h : l[k]? = some p) (h1 : ¬ p.left = -1) (h2 : ¬ (p.pane = 0 ∧ p.left = ((k + 1 : Nat) : Int))) : prs (f + 1) l k = none := by
 by_cases h0 : p.pane = 0
 ·rw [prs, h]
  simp only
  rw [if_neg (fun e => e h0)]
  cases prs f l (k + 1) with
  | none => rfl
  | some a =>
   simp only
   cases prs f l (k + 1 + a.cnt) with
   | none => rfl
   | some b => simp only; rw [if_neg (fun e => h2 ⟨h0, e.1⟩)]
 ·rw [prs_pane h h0, if_neg]
  rintro ⟨e, -⟩
  exact h1 (by rw [(pnQ_iff p).1 e]; rfl)
theorem wk_split {f : Nat} {l : List Pt} {k : Nat} {p : Pt} {W H : Int} (h : l[k]? = some p) (h0 : p.pane = 0) (h1 : p.left = ((k + 1 : Nat) : Int)) (hW : W ≤ 1000) (hH : H ≤ 1000) {Wl Hl Wr Hr : Int}
  (hp : (p.rows = true ∧ Wl = W ∧ Hl = szC p.size ∧ Wr = W ∧ Hr = H - szC p.size) ∨ (p.rows = false ∧ Wl = szC p.size ∧ Hl = H ∧ Wr = W - szC p.size ∧ Hr = H)) :
  wk (f + 1) l k W H = match wk f l (k + 1) Wl Hl with
   | none => none
   | some n => if p.right = (n : Int) then wk f l n Wr Hr else none := by
 have hfit : ∀ a b : Tr, (Tr.split p.rows p.size a b).fits W H = (a.fits Wl Hl && b.fits Wr Hr) := by
  intro a b
  by_cases hz : 0 ≤ p.size ∧ p.size ≤ 1000
  ·rw [szC_id hz] at hp
   rw [Tr.fits]
   rcases hp with ⟨e, rfl, rfl, rfl, rfl⟩ | ⟨e, rfl, rfl, rfl, rfl⟩ <;> simp [e]
  ·have hL : (Tr.split p.rows p.size a b).fits W H = false := by
    cases e : (Tr.split p.rows p.size a b).fits W H with
    | false => rfl
    | true =>
     rw [Tr.fits] at e
     rcases hp with ⟨e1, _⟩ | ⟨e1, _⟩ <;> rw [e1] at e <;> simp only [if_true, Bool.false_eq_true, if_false, Bool.and_eq_true] at e <;> have := fits_two _ _ _ e.1 <;> have := fits_two _ _ _ e.2 <;> omega
   have hR : (a.fits Wl Hl && b.fits Wr Hr) = false := by
    cases e : (a.fits Wl Hl && b.fits Wr Hr) with
    | false => rfl
    | true =>
     rw [Bool.and_eq_true] at e
     have e1 := fits_two _ _ _ e.1
     have e2 := fits_two _ _ _ e.2
     have hlo : p.size < 2 ∨ szC p.size = 1000 := by
      by_cases hs : p.size < 2
      ·exact .inl hs
      ·right; unfold szC mx mn; split <;> split <;> omega
     rcases hlo with hlo | hlo
     ·have : szC p.size < 2 := by unfold szC mx mn; split <;> split <;> omega
      rcases hp with ⟨_, rfl, rfl, rfl, rfl⟩ | ⟨_, rfl, rfl, rfl, rfl⟩ <;> omega
     ·rcases hp with ⟨_, rfl, rfl, rfl, rfl⟩ | ⟨_, rfl, rfl, rfl, rfl⟩ <;> omega
   rw [hL, hR]
 unfold wk
 cases ha : prs f l (k + 1) with
 | none => rw [prs_no1 h h0 ha]
 | some a =>
  simp only
  by_cases hfa : a.fits Wl Hl = true
  ·rw [if_pos hfa]
   simp only
   cases hb : prs f l (k + 1 + a.cnt) with
   | none => rw [prs_no2 h h0 ha hb]; simp
   | some b =>
    rw [prs_both h h0 ha hb]
    by_cases hr : p.right = ((k + 1 + a.cnt : Nat) : Int)
    ·rw [if_pos ⟨h1, hr⟩, if_pos hr]
     simp only
     rw [hfit a b, hfa, Bool.true_and, show k + (Tr.split p.rows p.size a b).cnt = k + 1 + a.cnt + b.cnt from by simp only [Tr.cnt]; omega]
    ·rw [if_neg (fun e => hr e.2), if_neg hr]
  ·rw [if_neg hfa]
   simp only
   cases hb : prs f l (k + 1 + a.cnt) with
   | none => rw [prs_no2 h h0 ha hb]
   | some b =>
    rw [prs_both h h0 ha hb]
    by_cases hr : p.left = ((k + 1 : Nat) : Int) ∧ p.right = ((k + 1 + a.cnt : Nat) : Int)
    ·rw [if_pos hr]
     simp only
     rw [if_neg]
     rw [hfit a b]
     simp [hfa]
    ·rw [if_neg hr]
end Go.Proofs.YtgnecacoehedkaaDoor
