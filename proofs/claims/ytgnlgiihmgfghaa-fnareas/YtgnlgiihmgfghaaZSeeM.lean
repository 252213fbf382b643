/- A grid of counts: how often each place was seen. Plain mathematics. -/
import Derived.Test.YtgnlgiihmgfghaaZAreT
namespace Go.Proofs.Ytgnlgiihmgfghaa
open Go.ChangeShapes Go.WideShapes Go.ChangeAt Go.RowKit
def gridL (W H : Nat) (f : Nat → Nat → Int) : List Int := (List.range (W * H)).map fun q => f (q % W) (q / W)
theorem gridL_len (W H : Nat) (f : Nat → Nat → Int) : (gridL W H f).length = W * H := by simp [gridL]
theorem gridL_get {W H : Nat} (f : Nat → Nat → Int) {q : Nat} (hq : q < W * H) : (gridL W H f)[q]? = some (f (q % W) (q / W)) := by
 unfold gridL
 rw [List.getElem?_map, List.getElem?_range hq]; rfl
theorem place_lt {W H X Y : Nat} (hX : X < W) (hY : Y < H) : Y * W + X < W * H := by
 have h1 : Y * W + W ≤ H * W := by rw [← Nat.succ_mul]; exact Nat.mul_le_mul_right W hY
 have h2 : H * W = W * H := Nat.mul_comm H W
 omega
theorem place_mod {W X : Nat} (Y : Nat) (hX : X < W) : (Y * W + X) % W = X := by
 rw [Nat.add_comm, Nat.add_mul_mod_self_right, Nat.mod_eq_of_lt hX]
theorem place_div {W X : Nat} (Y : Nat) (hX : X < W) : (Y * W + X) / W = Y := by
 rw [Nat.add_comm, Nat.add_mul_div_right _ _ (by omega), Nat.div_eq_of_lt hX, Nat.zero_add]
theorem gridL_at {W H X Y : Nat} (f : Nat → Nat → Int) (hX : X < W) (hY : Y < H) : (gridL W H f)[Y * W + X]? = some (f X Y) := by
 rw [gridL_get f (place_lt hX hY), place_mod Y hX, place_div Y hX]
theorem gridL_congr {W H : Nat} {f g : Nat → Nat → Int} (h : ∀ x y, x < W → y < H → f x y = g x y) : gridL W H f = gridL W H g := by
 unfold gridL
 refine List.map_congr_left fun q hq => ?_
 have hq' : q < W * H := List.mem_range.1 hq
 have hW : 0 < W := by
  rcases Nat.eq_zero_or_pos W with e | e
  ·subst e; omega
  ·exact e
 exact h _ _ (Nat.mod_lt _ hW) (Nat.div_lt_of_lt_mul hq')
theorem gridL_set {W H X Y : Nat} (f : Nat → Nat → Int) (v : Int) (hX : X < W) (hY : Y < H) : (gridL W H f).set (Y * W + X) v = gridL W H (fun x y => if x = X ∧ y = Y then v else f x y) := by
 refine List.ext_getElem? fun q => ?_
 rw [List.getElem?_set, gridL_len]
 by_cases hq : q < W * H
 ·by_cases e : Y * W + X = q
  ·rw [if_pos e, if_pos (by rw [e]; exact hq), ← e, gridL_at _ hX hY, if_pos ⟨rfl, rfl⟩]
  ·rw [if_neg e, gridL_get f hq, gridL_get _ hq, if_neg]
   rintro ⟨h1, h2⟩
   apply e
   have := Nat.div_add_mod q W
   rw [h1, h2] at this
   rw [Nat.mul_comm] at this
   exact this
 ·have n1 : ∀ g, (gridL W H g)[q]? = none := fun g => List.getElem?_eq_none (by rw [gridL_len]; omega)
  rw [n1, n1, if_neg (fun e => hq (by rw [← e]; exact place_lt hX hY))]
/-- How many of the areas have the place. -/
def cov (A : List Ar) (x y : Nat) : Int := ((A.countP (fun a => a.has (x : Int) (y : Int)) : Nat) : Int)
/-- What is done of an area, row by row, up to the place (X, Y). -/
def par (a : Ar) (X Y : Int) (x y : Nat) : Int := if a.has (x : Int) (y : Int) = true ∧ ((y : Int) < Y ∨ ((y : Int) = Y ∧ (x : Int) < X)) then 1 else 0
theorem has_iff (a : Ar) (x y : Int) : a.has x y = true ↔ a.x ≤ x ∧ x < a.x + a.w ∧ a.y ≤ y ∧ y < a.y + a.h := decide_eq_true_iff
theorem par_start (a : Ar) (x y : Nat) : par a a.x a.y x y = 0 := by
 unfold par
 rw [if_neg]
 rintro ⟨h1, h2⟩
 have := (has_iff _ _ _).1 h1
 omega
theorem par_row (a : Ar) (Y : Int) (x y : Nat) : par a (a.x + a.w) Y x y = par a a.x (Y + 1) x y := by
 unfold par
 have : (a.has (x : Int) (y : Int) = true ∧ ((y : Int) < Y ∨ ((y : Int) = Y ∧ (x : Int) < a.x + a.w))) ↔ (a.has (x : Int) (y : Int) = true ∧ ((y : Int) < Y + 1 ∨ ((y : Int) = Y + 1 ∧ (x : Int) < a.x))) := by
  constructor
  ·rintro ⟨h1, h2⟩; exact ⟨h1, by omega⟩
  ·rintro ⟨h1, h2⟩; have := (has_iff _ _ _).1 h1; exact ⟨h1, by omega⟩
 by_cases h : a.has (x : Int) (y : Int) = true ∧ ((y : Int) < Y ∨ ((y : Int) = Y ∧ (x : Int) < a.x + a.w))
 ·rw [if_pos h, if_pos (this.1 h)]
 ·rw [if_neg h, if_neg (fun e => h (this.2 e))]
theorem par_step (a : Ar) {X Y : Nat} (hX : a.x ≤ (X : Int) ∧ (X : Int) < a.x + a.w) (hY : a.y ≤ (Y : Int) ∧ (Y : Int) < a.y + a.h) (x y : Nat) : par a ((X : Int) + 1) (Y : Int) x y = if x = X ∧ y = Y then par a (X : Int) (Y : Int) x y + 1 else par a (X : Int) (Y : Int) x y := by
 unfold par
 by_cases e : x = X ∧ y = Y
 ·obtain ⟨rfl, rfl⟩ := e
  have h1 : a.has (x : Int) (y : Int) = true := (has_iff _ _ _).2 ⟨hX.1, hX.2, hY.1, hY.2⟩
  rw [if_pos ⟨h1, .inr ⟨rfl, by omega⟩⟩, if_pos ⟨rfl, rfl⟩, if_neg (by omega)]; rfl
 ·rw [if_neg e]
  have : ((y : Int) < (Y : Int) ∨ ((y : Int) = (Y : Int) ∧ (x : Int) < (X : Int) + 1)) ↔ ((y : Int) < (Y : Int) ∨ ((y : Int) = (Y : Int) ∧ (x : Int) < (X : Int))) := by omega
  simp only [this]
theorem par_end (a : Ar) (x y : Nat) : par a a.x (a.y + a.h) x y = if a.has (x : Int) (y : Int) = true then 1 else 0 := by
 unfold par
 by_cases h : a.has (x : Int) (y : Int) = true
 ·have := (has_iff _ _ _).1 h
  rw [if_pos ⟨h, by omega⟩, if_pos h]
 ·rw [if_neg (fun e => h e.1), if_neg h]
theorem cov_take {A : List Ar} {i : Nat} {a : Ar} (h : A[i]? = some a) (x y : Nat) : cov (A.take (i + 1)) x y = cov (A.take i) x y + par a a.x (a.y + a.h) x y := by
 obtain ⟨hi, rfl⟩ := List.getElem?_eq_some_iff.1 h
 unfold cov
 rw [par_end, List.take_add_one, List.getElem?_eq_getElem hi, List.countP_append]
 simp only [Option.toList_some, List.countP_cons, List.countP_nil, Nat.zero_add]
 split <;> simp_all
/-- The grid while an area is gone over. -/
def seeL (W H : Nat) (A : List Ar) (a : Ar) (X Y : Int) : List Int := gridL W H (fun x y => cov A x y + par a X Y x y)
theorem seeL_start (W H : Nat) (A : List Ar) (a : Ar) : gridL W H (cov A) = seeL W H A a a.x a.y := gridL_congr fun x y _ _ => by rw [par_start, Int.add_zero]
theorem seeL_row (W H : Nat) (A : List Ar) (a : Ar) (Y : Int) : seeL W H A a (a.x + a.w) Y = seeL W H A a a.x (Y + 1) := gridL_congr fun x y _ _ => by rw [par_row]
theorem seeL_end {W H : Nat} {A : List Ar} {i : Nat} {a : Ar} (h : A[i]? = some a) : seeL W H (A.take i) a a.x (a.y + a.h) = gridL W H (cov (A.take (i + 1))) := gridL_congr fun x y _ _ => by rw [cov_take h]
theorem seeL_get {W H : Nat} (A : List Ar) (a : Ar) {X Y : Nat} (hX : X < W) (hY : Y < H) : (seeL W H A a X Y)[Y * W + X]? = some (cov A X Y + par a X Y X Y) := gridL_at _ hX hY
theorem seeL_set {W H : Nat} (A : List Ar) (a : Ar) {X Y : Nat} (hX : X < W) (hY : Y < H) (h1 : a.x ≤ (X : Int) ∧ (X : Int) < a.x + a.w) (h2 : a.y ≤ (Y : Int) ∧ (Y : Int) < a.y + a.h) : (seeL W H A a X Y).set (Y * W + X) (cov A X Y + par a X Y X Y + 1) = seeL W H A a ((X : Int) + 1) Y := by
 unfold seeL
 rw [gridL_set _ _ hX hY]
 refine gridL_congr fun x y _ _ => ?_
 rw [par_step a h1 h2]
 by_cases e : x = X ∧ y = Y
 ·rw [if_pos e, if_pos e, e.1, e.2]; omega
 ·rw [if_neg e, if_neg e]
theorem cov_bd (A : List Ar) (x y : Nat) (n : Nat) (h : A.length ≤ n) : 0 ≤ cov A x y ∧ cov A x y ≤ n := by
 have := List.countP_le_length (p := fun a : Ar => a.has (x : Int) (y : Int)) (l := A)
 unfold cov; omega
theorem par_bd (a : Ar) (X Y : Int) (x y : Nat) : 0 ≤ par a X Y x y ∧ par a X Y x y ≤ 1 := by unfold par; split <;> omega
theorem see_zero (W H : Nat) : gridL W H (cov ([].take 0)) = List.replicate (W * H) 0 := by
 refine List.ext_getElem (by simp [gridL]) fun q h1 h2 => ?_
 simp [gridL, cov]
theorem see_all {t : Tr} {W H : Nat} (hf : t.fits W H = true) {q : Nat} (hq : q < W * H) : (gridL W H (cov (t.areas 0 0 W H)))[q]? = some 1 := by
 rw [gridL_get _ hq]
 have hW : 0 < W := by
  rcases Nat.eq_zero_or_pos W with e | e
  ·subst e; omega
  ·exact e
 have hx := Nat.mod_lt q hW
 have hy := Nat.div_lt_of_lt_mul hq
 generalize q % W = x at hx
 generalize q / W = y at hy
 unfold cov
 rw [areas_once t 0 0 W H hf _ _ (by omega) (by omega) (by omega) (by omega)]; rfl
end Go.Proofs.Ytgnlgiihmgfghaa
