/- Areas cover the whole, each place once. Plain mathematics. -/
import Derived.Test.YtgnlgiihmgfghaaZG41
namespace Go.Proofs.Ytgnlgiihmgfghaa
open Go.ChangeShapes Go.WideShapes Go.ChangeAt Go.RowKit
def Ar.has (a : Ar) (px py : Int) : Bool := decide (a.x ≤ px ∧ px < a.x + a.w ∧ a.y ≤ py ∧ py < a.y + a.h)
/-- Every area is as great as it must be, and lies within. -/
theorem areas_in : ∀ (t : Tr) (x y w h : Int), t.fits w h = true → ∀ a ∈ t.areas x y w h, 2 ≤ a.w ∧ 2 ≤ a.h ∧ x ≤ a.x ∧ y ≤ a.y ∧ a.x + a.w ≤ x + w ∧ a.y + a.h ≤ y + h := by
 intro t
 induction t using Tr.ind with
 | pane n =>
  intro x y w h hf a ha
  rw [Tr.areas] at ha
  obtain rfl := List.mem_singleton.1 ha
  rw [Tr.fits] at hf
  have := of_decide_eq_true hf
  exact ⟨this.1, this.2, Int.le_refl _, Int.le_refl _, Int.le_refl _, Int.le_refl _⟩
 | split rows s l r ihl ihr =>
  intro x y w h hf a ha
  rw [Tr.areas] at ha
  rw [Tr.fits] at hf
  cases rows
  ·simp only [Bool.false_eq_true, if_false, Bool.and_eq_true, List.mem_append] at hf ha
   have wl := fits_two l s h hf.1
   have wr := fits_two r (w - s) h hf.2
   rcases ha with ha | ha
   ·have := ihl x y s h hf.1 a ha; omega
   ·have := ihr (x + s) y (w - s) h hf.2 a ha; omega
  ·simp only [if_true, Bool.and_eq_true, List.mem_append] at hf ha
   have wl := fits_two l w s hf.1
   have wr := fits_two r w (h - s) hf.2
   rcases ha with ha | ha
   ·have := ihl x y w s hf.1 a ha; omega
   ·have := ihr x (y + s) w (h - s) hf.2 a ha; omega
theorem countP_zero' {α : Type} {p : α → Bool} {l : List α} (h : ∀ a ∈ l, p a = false) : l.countP p = 0 := by
 rw [List.countP_eq_zero]
 intro a ha e
 rw [h a ha] at e; cases e
/-- The areas cover the whole, each place once. -/
theorem areas_once : ∀ (t : Tr) (x y w h : Int), t.fits w h = true → ∀ px py, x ≤ px → px < x + w → y ≤ py → py < y + h → (t.areas x y w h).countP (fun a => a.has px py) = 1 := by
 intro t
 induction t using Tr.ind with
 | pane n =>
  intro x y w h hf px py h1 h2 h3 h4
  rw [Tr.areas]
  simp [Ar.has, h1, h2, h3, h4]
 | split rows s l r ihl ihr =>
  intro x y w h hf px py h1 h2 h3 h4
  rw [Tr.areas]
  rw [Tr.fits] at hf
  cases rows
  ·simp only [Bool.false_eq_true, if_false, Bool.and_eq_true] at hf ⊢
   rw [List.countP_append]
   by_cases hs : px < x + s
   ·rw [ihl x y s h hf.1 px py h1 hs h3 h4, countP_zero' (fun a ha => by
     have := areas_in r (x + s) y (w - s) h hf.2 a ha
     unfold Ar.has; exact decide_eq_false (by omega))]
   ·rw [ihr (x + s) y (w - s) h hf.2 px py (by omega) (by omega) h3 h4, countP_zero' (fun a ha => by
     have := areas_in l x y s h hf.1 a ha
     unfold Ar.has; exact decide_eq_false (by omega))]
  ·simp only [if_true, Bool.and_eq_true] at hf ⊢
   rw [List.countP_append]
   by_cases hs : py < y + s
   ·rw [ihl x y w s hf.1 px py h1 h2 h3 hs, countP_zero' (fun a ha => by
     have := areas_in r x (y + s) w (h - s) hf.2 a ha
     unfold Ar.has; exact decide_eq_false (by omega))]
   ·rw [ihr x (y + s) w (h - s) hf.2 px py h1 h2 (by omega) (by omega), countP_zero' (fun a ha => by
     have := areas_in l x y w s hf.1 a ha
     unfold Ar.has; exact decide_eq_false (by omega))]
end Go.Proofs.Ytgnlgiihmgfghaa
