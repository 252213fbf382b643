/- Texts put together: Regs ArrM. -/
import Derived.Test.YtilnpkonhbmdpaaDoorZBv
import Derived.Deep.QuietTactic
import Derived.BigQuiet
import Derived.Test.YtilnpkonhbmdpaaDoorZBase
import Derived.Deep.MidRow
import Derived.WalkSmall
/- One step of the registers. -/
namespace Go.Proofs.YtilnpkonhbmdpaaDoor
open Go.ChangeShapes Go.WideShapes Go.ChangeAt Go.RowKit

def bs1 (e : BitVec 32) : BitVec 32 := rot e 6 ^^^ rot e 11 ^^^ rot e 25
def bs0 (a : BitVec 32) : BitVec 32 := rot a 2 ^^^ rot a 13 ^^^ rot a 22
def tOne (e f g y x : BitVec 32) : BitVec 32 := y + bs1 e + (e &&& f ||| ~~~e &&& g) + x
def tTwo (a b c : BitVec 32) : BitVec 32 := bs0 a + (a &&& b ||| a &&& c ||| b &&& c)

theorem wI_add (a b : BitVec 32) : wI (a + b) = (wI a + wI b) % 4294967296 := (w_add a b).symm
theorem sum6 (a b c d e f : BitVec 32) : (wI a + wI b + wI c + wI d + (wI e + wI f)) % 4294967296 = wI (a + b + c + d + (e + f)) := by
  simp only [wI_add]; omega
theorem sum5 (a b c d e : BitVec 32) : (wI a + (wI b + wI c + wI d + wI e)) % 4294967296 = wI (a + (b + c + d + e)) := by
  simp only [wI_add]; omega

set_option maxHeartbeats 1000000 in
set_option maxRecDepth 100000 in
theorem regs33 (a b c d e f g y x : BitVec 32) (w : World) :
    Calls Tryd.prog 85 #[.agg #[.int .u32 (wI a), .int .u32 (wI b), .int .u32 (wI c), .int .u32 (wI d), .int .u32 (wI e), .int .u32 (wI f), .int .u32 (wI g), .int .u32 (wI y)], .int .u32 (wI x)] w fun r w' =>
      r = .returned (.agg #[.int .u32 (wI (tOne e f g y x + tTwo a b c)), .int .u32 (wI a), .int .u32 (wI b), .int .u32 (wI c), .int .u32 (wI (d + tOne e f g y x)), .int .u32 (wI e), .int .u32 (wI f), .int .u32 (wI g)]) ∧ Below w.heap.size w w' := by
  have HT1 := hide (show tOne e f g y x = y + (rot e 6 ^^^ rot e 11 ^^^ rot e 25) + (e &&& f ||| ~~~e &&& g) + x from rfl)
  have HT2 := hide (show tTwo a b c = (rot a 2 ^^^ rot a 13 ^^^ rot a 22) + (a &&& b ||| a &&& c ||| b &&& c) from rfl)
  go_enter Tryd.func85, Tryd.ntmps85
  go_wp2_with fail
  go_quiet (fail)
  go_wp2_with fail
  go_quiet (fail)
  go_wp2_with fail
  refine (turnI e 6 6 rfl (by decide) (by decide) _).mono ?_
  rintro r w1 ⟨rfl, hw⟩
  subst w1
  go_wp2_with fail
  refine (turnI e 11 11 rfl (by decide) (by decide) _).mono ?_
  rintro r w1 ⟨rfl, hw⟩
  subst w1
  go_wp2_with fail
  refine (turnI e 25 25 rfl (by decide) (by decide) _).mono ?_
  rintro r w1 ⟨rfl, hw⟩
  subst w1
  go_wp2_with fail
  refine (turnI a 2 2 rfl (by decide) (by decide) _).mono ?_
  rintro r w1 ⟨rfl, hw⟩
  subst w1
  go_wp2_with fail
  refine (turnI a 13 13 rfl (by decide) (by decide) _).mono ?_
  rintro r w1 ⟨rfl, hw⟩
  subst w1
  go_wp2_with fail
  refine (turnI a 22 22 rfl (by decide) (by decide) _).mono ?_
  rintro r w1 ⟨rfl, hw⟩
  subst w1
  go_wp2_with fail
  simp only [w_xor, w_and, w_or, w_not, sum6, sum5]
  refine bodyPost_ret (v := .agg #[.int .u32 (wI (tOne e f g y x + tTwo a b c)), .int .u32 (wI a), .int .u32 (wI b), .int .u32 (wI c), .int .u32 (wI (d + tOne e f g y x)), .int .u32 (wI e), .int .u32 (wI f), .int .u32 (wI g)]) ?_ rfl ⟨rfl, ?_⟩
  · rw [unhide HT1, unhide HT2]
    simp [results, Tryd.results85, go_sem]
  · repeat (refine Below.setCell ?_ (by simp) _)
    exact below_drewN (((Below.refl _ _).alloc (Nat.le_refl _) _).alloc (by simp) _) _
end Go.Proofs.YtilnpkonhbmdpaaDoor

/- Arrays in memory: a block whose cells are known. -/
namespace Go.Proofs.YtilnpkonhbmdpaaDoor
open Go.ChangeShapes Go.WideShapes Go.ChangeAt Go.RowKit

/-- Block g holds just the cells l, and may be written. -/
def ArrAt (w : World) (g : Nat) (t : TypeId) (l : List Value) : Prop := w.heap[g]? = some (.cells l.toArray t (0, 0))
theorem ArrAt.cell {w : World} {g : Nat} {t : TypeId} {l : List Value} (h : ArrAt w g t l) (k : Nat) : w.cell? ⟨g, k, none⟩ = l[k]? := by
  rw [cell_of_row w g k l.toArray t (0, 0) h]; simp
theorem ArrAt.frozen {w : World} {g : Nat} {t : TypeId} {l : List Value} (h : ArrAt w g t l) (k : Nat) : w.frozen? ⟨g, k, none⟩ = false :=
  frozen_of_row w g k l.toArray t h
theorem ArrAt.set {w : World} {g : Nat} {t : TypeId} {l : List Value} (h : ArrAt w g t l) (k : Nat) (u : Value) : ArrAt (w.setCell ⟨g, k, none⟩ u) g t (l.set k u) := by
  have := heap_setCell_same w g k l.toArray t u h
  unfold ArrAt; rw [this]; simp
theorem ArrAt.other {w : World} {g g' : Nat} {t : TypeId} {l : List Value} (h : ArrAt w g t l) (hne : g ≠ g') (k : Nat) (u : Value) : ArrAt (w.setCell ⟨g', k, none⟩ u) g t l :=
  (heap_setCell_other w ⟨g', k, none⟩ g u hne).trans h
theorem ArrAt.drew {w : World} {g : Nat} {t : TypeId} {l : List Value} (h : ArrAt w g t l) : ArrAt w.drew g t l := h
theorem ArrAt.drewN {w : World} {g : Nat} {t : TypeId} {l : List Value} (h : ArrAt w g t l) (n : Nat) : ArrAt (w.drewN n) g t l := h
theorem ArrAt.lt {w : World} {g : Nat} {t : TypeId} {l : List Value} (h : ArrAt w g t l) : g < w.heap.size := by
  rcases Nat.lt_or_ge g w.heap.size with hlt | hge
  · exact hlt
  · unfold ArrAt at h; rw [Array.getElem?_eq_none hge] at h; cases h
theorem ArrAt.alloc {w : World} {g : Nat} {t : TypeId} {l : List Value} (h : ArrAt w g t l) (o : Obj) : ArrAt (w.alloc o) g t l :=
  (Below.heap_alloc w o g h.lt).trans h
theorem ArrAt.below {w w' : World} {B g : Nat} {t : TypeId} {l : List Value} (h : ArrAt w g t l) (hb : Below B w w') (hg : g < B) : ArrAt w' g t l :=
  (hb.block g hg).trans h
theorem arr_new (w : World) (l : List Value) (t : TypeId) : ArrAt (w.alloc (.cells l.toArray t)) w.heap.size t l := heap_alloc_new w _
theorem ArrAt.range {w : World} {g : Nat} {t : TypeId} {l : List Value} (h : ArrAt w g t l) : w.rangeAt g 0 l := fun j v hv => by
  rw [Nat.zero_add, h.cell j, hv]
theorem ArrAt.there {w : World} {g : Nat} {t : TypeId} {l : List Value} (h : ArrAt w g t l) : w.there g 0 l.length := fun j hj => by
  rw [Nat.zero_add]
  exact ⟨by rw [h.cell j, List.getElem?_eq_getElem hj]; rfl, h.frozen j⟩

end Go.Proofs.YtilnpkonhbmdpaaDoor
