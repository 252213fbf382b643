/- A right layout's tree; rows behind a store. -/
import Derived.Test.YthbkpdlcegakfaaDoorOkL
namespace Go.Proofs.YthbkpdlcegakfaaDoor
open Go.ChangeShapes Go.WideShapes Go.ChangeAt Go.RowKit
theorem tofS_ok {l : List Pt} {W H : Int} {t : Tr} (e : tofS l W H = some t) : sizeB W H = true ∧ l = t.flat 0 ∧ t.cnt = l.length ∧ t.cnt ≤ 11 ∧ t.good ∧ t.panes.Nodup ∧ t.fits W H = true := by
  unfold tofS at e
  split at e
  · rename_i hs; exact ⟨hs, tof_flat e⟩
  · cases e
theorem row_own {w : World} {base : Nat} {e : TypeId} {z : Nat} {a : Option Addr} {n cap : Nat} {xs : List Value} {k o : Nat} {v : Value} (h : w.ownsRow base e z (.slice a n cap) n xs) (hk : k < base) : RowV (w.setCell ⟨k, o, none⟩ v) a xs := rowZ_at (ownsRow_setCell_below h hk v)
theorem row_far {w : World} {a : Option Addr} {xs : List Value} {k o : Nat} {v : Value} {B : Nat} {w0 : World} (h : RowV w0 a xs) (hb : Below B w0 w) (hB : w0.heap.size ≤ B) (hk : B ≤ k) : RowV (w.setCell ⟨k, o, none⟩ v) a xs :=
  h.below ((hb.setCell (p := ⟨k, o, none⟩) hk v).mono hB)
end Go.Proofs.YthbkpdlcegakfaaDoor
