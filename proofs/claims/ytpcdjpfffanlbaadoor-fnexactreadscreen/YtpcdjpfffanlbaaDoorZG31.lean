/- Texts put together: CelM OkM RscM CelI. -/
import Derived.Test.YtpcdjpfffanlbaaDoorZG29
import Derived.Test.YtpcdjpfffanlbaaDoorZRuneI
import Derived.Test.YtpcdjpfffanlbaaDoorZG5
import Derived.Test.YtpcdjpfffanlbaaDoorZReadFI
import Derived.Test.YtpcdjpfffanlbaaDoorZReadNumI
import Derived.Lib.SmallJoins
/- Right cells. Plain mathematics. -/
namespace Go.Proofs.YtpcdjpfffanlbaaDoor
open Go.ChangeShapes Go.WideShapes Go.ChangeAt Go.RowKit
def cellB (c : Int × Int) : Bool := runeB c.1 && inB c.2 0 127
theorem all_take {α : Type} {l : List α} {f : α → Bool} (h : ∀ q (hq : q < l.length), f l[q] = true) : l.all f = true := by
 rw [List.all_eq_true]
 intro x hx
 obtain ⟨q, hq, rfl⟩ := List.mem_iff_getElem.1 hx
 exact h q hq
theorem all_bad {α : Type} {l : List α} {f : α → Bool} {q : Nat} (hq : q < l.length) (h : f l[q] = false) : l.all f = false := by
 rw [List.all_eq_false]
 exact ⟨l[q], List.getElem_mem hq, by rw [h]; decide⟩
end Go.Proofs.YtpcdjpfffanlbaaDoor

/- When a screen is right. Plain mathematics. -/
namespace Go.Proofs.YtpcdjpfffanlbaaDoor
open Go.ChangeShapes Go.WideShapes Go.ChangeAt Go.RowKit
def placeB (W H x y : Int) : Bool := inB x 0 W && inB y 0 (H - 1)
def areaB (H top bottom : Int) : Bool := inB top 0 (H - 2) && inB bottom (top + 1) (H - 1)
def cellsB (W H : Int) (l : List (Int × Int)) : Bool := decide ((l.length : Int) = W * H) && l.all cellB
def histB (m : List ByteArray) : Bool := decide (m.length ≤ 6) && m.all fun s => decide (s.size ≤ 96)
/-- W, H, X, Y, Look, Top, Bottom, SaveX, SaveY. -/
def okB (i0 i1 i2 i3 i4 i5 i6 i7 i8 : Int) (t : List UInt8) (l : List (Int × Int)) (m : List ByteArray) : Bool :=
 sizeB i0 i1 && (placeB i0 i1 i2 i3 && (placeB i0 i1 i7 i8 && (areaB i1 i5 i6 && (inB i4 0 127 && (titleB t && (cellsB i0 i1 l && histB m))))))
end Go.Proofs.YtpcdjpfffanlbaaDoor

/- What bytes hold a screen. Plain mathematics. -/
namespace Go.Proofs.YtpcdjpfffanlbaaDoor
open Go.ChangeShapes Go.WideShapes Go.ChangeAt Go.RowKit
set_option linter.unusedVariables false
def RsOk (l : List UInt8) (i0 i1 i2 i3 i4 i5 i6 i7 i8 : Int) (t : ByteArray) (L : List (Int × Int)) (m : List ByteArray) : Prop :=
 ∃ (d f : ByteArray) (rs : List ByteArray), rfOf l = some (d :: t :: f :: rs) ∧ d.size = 27 ∧ numsR d.data.toList 9 = [i0, i1, i2, i3, i4, i5, i6, i7, i8] ∧ rfOf f.data.toList = some m ∧ (∀ s ∈ rs, (s.size : Int) = i0 * 4) ∧ L = rowsC i0.toNat rs ∧ okB i0 i1 i2 i3 i4 i5 i6 i7 i8 t.data.toList L m = true
/-- What ReadScreen answers, told once. -/
def RsIs (l : List UInt8) (i0 i1 i2 i3 i4 i5 i6 i7 i8 : Int) (t : ByteArray) (L : List (Int × Int)) (m : List ByteArray) (c : Int) : Prop :=
 (c = 0 ∧ l.length ≤ 65536 ∧ RsOk l i0 i1 i2 i3 i4 i5 i6 i7 i8 t L m) ∨ (i0 = 0 ∧ i1 = 0 ∧ i2 = 0 ∧ i3 = 0 ∧ i4 = 0 ∧ i5 = 0 ∧ i6 = 0 ∧ i7 = 0 ∧ i8 = 0 ∧ t = ⟨#[]⟩ ∧ L = [] ∧ m = [] ∧ ((65536 < l.length ∧ c = 2) ∨ (l.length ≤ 65536 ∧ (∀ j0 j1 j2 j3 j4 j5 j6 j7 j8 u M n, ¬ RsOk l j0 j1 j2 j3 j4 j5 j6 j7 j8 u M n) ∧ c = 3)))
theorem rs_ex (l : List UInt8) : ∃ i0 i1 i2 i3 i4 i5 i6 i7 i8 t L m c, RsIs l i0 i1 i2 i3 i4 i5 i6 i7 i8 t L m c := by
 by_cases h : 65536 < l.length
 ·exact ⟨0, 0, 0, 0, 0, 0, 0, 0, 0, ⟨#[]⟩, [], [], 2, .inr ⟨rfl, rfl, rfl, rfl, rfl, rfl, rfl, rfl, rfl, rfl, rfl, rfl, .inl ⟨h, rfl⟩⟩⟩
 ·by_cases hv : ∃ i0 i1 i2 i3 i4 i5 i6 i7 i8 t L m, RsOk l i0 i1 i2 i3 i4 i5 i6 i7 i8 t L m
  ·obtain ⟨i0, i1, i2, i3, i4, i5, i6, i7, i8, t, L, m, hv⟩ := hv
   exact ⟨i0, i1, i2, i3, i4, i5, i6, i7, i8, t, L, m, 0, .inl ⟨rfl, by omega, hv⟩⟩
  ·exact ⟨0, 0, 0, 0, 0, 0, 0, 0, 0, ⟨#[]⟩, [], [], 3, .inr ⟨rfl, rfl, rfl, rfl, rfl, rfl, rfl, rfl, rfl, rfl, rfl, rfl, .inr ⟨by omega, fun j0 j1 j2 j3 j4 j5 j6 j7 j8 u M n hx => hv ⟨j0, j1, j2, j3, j4, j5, j6, j7, j8, u, M, n, hx⟩, rfl⟩⟩⟩
end Go.Proofs.YtpcdjpfffanlbaaDoor

/- A right cell: what the program answers. -/
namespace Go.Proofs.YtpcdjpfffanlbaaDoor
open Go.ChangeShapes Go.WideShapes Go.ChangeAt Go.RowKit
set_option linter.unusedVariables false
set_option maxHeartbeats 400000 in
set_option maxRecDepth 100000 in
theorem ilook (x : Int) (w : World) : Calls Tryd.prog 34 #[.int .i64 x] w fun e w' => e = .returned (.bool (inB x 0 127)) ∧ w' = w := by
 by_cases h : 0 ≤ x
 ·by_cases h2 : x ≤ 127
  ·go_enter Tryd.func34, Tryd.ntmps34
   go_wp2_with fail
   go_ret
   exact ⟨ret_bool (b_true ⟨h, h2⟩), rfl⟩
  ·go_enter Tryd.func34, Tryd.ntmps34
   go_wp2_with fail
   go_ret
   exact ⟨ret_bool (b_false (by omega)), rfl⟩
 ·go_enter Tryd.func34, Tryd.ntmps34
  go_wp2_with fail
  go_ret
  exact ⟨ret_bool (b_false (by omega)), rfl⟩
set_option maxHeartbeats 400000 in
set_option maxRecDepth 100000 in
theorem icellok (x y : Int) (R : Bool) (HR : Hid (R = cellB (x, y))) (w : World) : Calls Tryd.prog 46 #[.agg #[.int .i64 x, .int .i64 y]] w fun e w' => e = .returned (.bool R) ∧ Below w.heap.size w w' := by
 have HB := hide (Go.Joins.below_alloc1 w (.cells #[.int .i64 x, .int .i64 y] 53))
 have hR : R = (runeB x && inB y 0 127) := unhide HR
 clear HR
 cases h1 : runeB x
 ·rw [h1] at hR
  obtain rfl : R = false := hR
  go_enter Tryd.func46, Tryd.ntmps46
  go_wp2_with (go_at_call 52; refine (irune x _).mono ?_; rintro e w2 ⟨rfl, rfl⟩; rw [h1])
  go_ret
  exact ⟨rfl, unhide HB⟩
 ·rw [h1, Bool.true_and] at hR
  subst hR
  have H1 := hide h1
  obtain ⟨q, hq⟩ : ∃ q, q = inB y 0 127 := ⟨_, rfl⟩
  have HQ := hide hq
  rw [← hq]
  clear h1 hq
  go_enter Tryd.func46, Tryd.ntmps46
  go_wp2_with (first | (go_at_call 52; refine (irune x _).mono ?_; rintro e w2 ⟨rfl, rfl⟩; rw [unhide H1]) | (go_at_call 34; refine (ilook y _).mono ?_; rintro e w2 ⟨rfl, rfl⟩; rw [← unhide HQ]))
  go_ret
  exact ⟨rfl, unhide HB⟩
end Go.Proofs.YtpcdjpfffanlbaaDoor
