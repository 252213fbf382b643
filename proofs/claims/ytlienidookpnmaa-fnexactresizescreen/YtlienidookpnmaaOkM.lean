/- When a screen is right. Plain mathematics. -/
import Derived.Test.YtlienidookpnmaaNewS
import Derived.Test.YtlienidookpnmaaRuneI
namespace Go.Proofs.Ytlienidookpnmaa
open Go.ChangeShapes Go.WideShapes Go.ChangeAt Go.RowKit
def placeB (W H x y : Int) : Bool := inB x 0 W && inB y 0 (H - 1)
def areaB (H top bottom : Int) : Bool := inB top 0 (H - 2) && inB bottom (top + 1) (H - 1)
def cellB (c : Int × Int) : Bool := runeB c.1 && inB c.2 0 127
def cellsB (W H : Int) (l : List (Int × Int)) : Bool := decide ((l.length : Int) = W * H) && l.all cellB
def histB (m : List ByteArray) : Bool := decide (m.length ≤ 6) && m.all fun s => decide (s.size ≤ 96)
/-- W, H, X, Y, Look, Top, Bottom, SaveX, SaveY. -/
def okB (i0 i1 i2 i3 i4 i5 i6 i7 i8 : Int) (t : List UInt8) (l : List (Int × Int)) (m : List ByteArray) : Bool :=
  sizeB i0 i1 && (placeB i0 i1 i2 i3 && (placeB i0 i1 i7 i8 && (areaB i1 i5 i6 && (inB i4 0 127 && (titleB t && (cellsB i0 i1 l && histB m))))))
theorem all_take {α : Type} {l : List α} {f : α → Bool} (h : ∀ q (hq : q < l.length), f l[q] = true) : l.all f = true := by
  rw [List.all_eq_true]
  intro x hx
  obtain ⟨q, hq, rfl⟩ := List.mem_iff_getElem.1 hx
  exact h q hq
theorem all_bad {α : Type} {l : List α} {f : α → Bool} {q : Nat} (hq : q < l.length) (h : f l[q] = false) : l.all f = false := by
  rw [List.all_eq_false]
  exact ⟨l[q], List.getElem_mem hq, by rw [h]; decide⟩
end Go.Proofs.Ytlienidookpnmaa
