/- Texts put together: CmdRT ArrM. -/
import Derived.Test.YtoplijjddhecgaaDoorZCrM
import Derived.Test.YtoplijjddhecgaaDoorZBase
import Derived.Deep.MidRow
import Derived.WalkSmall
import Derived.Deep.QuietTactic
import Derived.BigQuiet
/- Commands written and read back. Plain mathematics. -/
namespace Go.Proofs.YtoplijjddhecgaaDoor
open Go.ChangeShapes Go.WideShapes Go.ChangeAt Go.RowKit
set_option linter.unusedVariables false
theorem bit_back (r : Bool) : (bitI r == 1) = r := by cases r <;> rfl
theorem bit_in (r : Bool) : inB (bitI r) 0 1 = true := by cases r <;> exact decide_eq_true (by unfold bitI; simp)
/-- A right command's bytes are read back as the command. -/
theorem rc_cb (c : Cm) (h : c.ok = true) : rcV c.bytes = c ∧ rcC c.bytes = 0 := by
  obtain ⟨k, cl, sq, p, n, ep, r, nm, dt⟩ := c
  have hok : cmdB k cl sq p n ep r nm dt = true := h
  have hsz := cb_sizes hok
  have e3 : (cbF k cl sq p n ep r nm dt).length = 3 := rfl
  have hback := rf_fb (cbF k cl sq p n ep r nm dt) (by rw [e3]; decide) (short_of hsz (by decide)) (fsum_of (n := 3) hsz (by rw [e3]; decide) (by decide))
  rw [e3] at hback
  have eB : Cm.bytes ⟨k, cl, sq, p, n, ep, r, nm, dt⟩ = be 3 1 ++ fieldsL (cbF k cl sq p n ep r nm dt) := rfl
  rw [eB]
  generalize be 3 1 ++ fieldsL (cbF k cl sq p n ep r nm dt) = l at hback
  have hl : ¬ 65536 < l.length := by
    intro hl
    have h1 := hback.2
    unfold rfC at h1
    rw [if_pos hl] at h1
    omega
  have hrf : rfOf l = some (cbF k cl sq p n ep r nm dt) := by
    obtain ⟨h1, h2⟩ := hback
    unfold rfC at h2
    unfold rfL at h1
    rw [if_neg hl] at h1 h2
    cases e : rfOf l with
    | none => rw [e] at h2; simp at h2
    | some m => rw [e] at h1; rw [← h1]; rfl
  have hfit := cb_fit hok
  have hlen : (numsL (cbN k cl sq p n ep r)).length = 21 := by rw [numsL_len]; rfl
  have h3 := rn_nb (cbN k cl sq p n ep r) (by simp [cbN]) hfit
  rw [(nb_ok (l := cbN k cl sq p n ep r) (by simp [cbN]) hfit).1] at h3
  have h4 := rn_ok (l := numsL (cbN k cl sq p n ep r)) (by omega) (by omega) (by omega)
  rw [h4.1, hlen] at h3
  have h5 : numsR (numsL (cbN k cl sq p n ep r)) 7 = [k, cl, sq, p, n + 1000, ep, bitI r] := h3.1
  have ec : cm3 ⟨(numsL (cbN k cl sq p n ep r)).toArray⟩ nm dt = ⟨k, cl, sq, p, n, ep, r, nm, dt⟩ := by
    unfold cm3
    rw [show (⟨(numsL (cbN k cl sq p n ep r)).toArray⟩ : ByteArray).data.toList = numsL (cbN k cl sq p n ep r) from rfl, h5]
    simp only [bit_back, Cm.mk.injEq, true_and, and_true]
    omega
  have eb : bit3 ⟨(numsL (cbN k cl sq p n ep r)).toArray⟩ = true := by
    unfold bit3
    rw [show (⟨(numsL (cbN k cl sq p n ep r)).toArray⟩ : ByteArray).data.toList = numsL (cbN k cl sq p n ep r) from rfl, h5]
    exact bit_in r
  have hs21 : (⟨(numsL (cbN k cl sq p n ep r)).toArray⟩ : ByteArray).size = 21 := by rw [mk_size, hlen]
  have hrc : rcOf l = some ⟨k, cl, sq, p, n, ep, r, nm, dt⟩ := by
    unfold rcOf
    rw [hrf]
    unfold cbF
    simp only
    rw [ec, if_pos ⟨hs21, eb, h⟩]
  unfold rcV rcC
  rw [if_neg hl, if_neg hl, hrc]
  exact ⟨rfl, rfl⟩
/-- What is read as a command is right, and its bytes are those that were read. -/
theorem cb_rc (l : List UInt8) (h : rcC l = 0) : (rcV l).ok = true ∧ (rcV l).bytes = l := by
  have hl : ¬ 65536 < l.length := by
    intro hl
    unfold rcC at h
    rw [if_pos hl] at h
    omega
  unfold rcC at h
  unfold rcV
  rw [if_neg hl] at h ⊢
  cases e : rcOf l with
  | none => rw [e] at h; simp at h
  | some c =>
    show c.ok = true ∧ c.bytes = l
    unfold rcOf at e
    split at e
    · rename_i f0 nm dt hrf
      split at e
      · rename_i hc
        have e' := Option.some.inj e
        subst e'
        exact ⟨hc.2.2, (rc_bytes hl hrf hc.1 hc.2.2).2 hc.2.1⟩
      · cases e
    · cases e
end Go.Proofs.YtoplijjddhecgaaDoor

/- Arrays in memory: a block whose cells are known. -/
namespace Go.Proofs.YtoplijjddhecgaaDoor
open Go.ChangeShapes Go.WideShapes Go.ChangeAt Go.RowKit

/-- Block g holds just the cells l, and may be written. -/
def ArrAt (w : World) (g : Nat) (t : TypeId) (l : List Value) : Prop := w.heap[g]? = some (.cells l.toArray t (0, 0))
theorem ArrAt.cell {w : World} {g : Nat} {t : TypeId} {l : List Value} (h : ArrAt w g t l) (k : Nat) : w.cell? ⟨g, k, none⟩ = l[k]? := by
  rw [cell_of_row w g k l.toArray t (0, 0) h]; simp
theorem ArrAt.frozen {w : World} {g : Nat} {t : TypeId} {l : List Value} (h : ArrAt w g t l) (k : Nat) : w.frozen? ⟨g, k, none⟩ = false :=
  frozen_of_row w g k l.toArray t h
theorem ArrAt.set {w : World} {g : Nat} {t : TypeId} {l : List Value} (h : ArrAt w g t l) (k : Nat) (u : Value) : ArrAt (w.setCell ⟨g, k, none⟩ u) g t (l.set k u) := by
  have := heap_setCell_same w g k l.toArray t u h
  unfold ArrAt; rw [this]; simp
theorem ArrAt.other {w : World} {g g' : Nat} {t : TypeId} {l : List Value} (h : ArrAt w g t l) (hne : g ≠ g') (k : Nat) (u : Value) : ArrAt (w.setCell ⟨g', k, none⟩ u) g t l :=
  (heap_setCell_other w ⟨g', k, none⟩ g u hne).trans h
theorem ArrAt.drew {w : World} {g : Nat} {t : TypeId} {l : List Value} (h : ArrAt w g t l) : ArrAt w.drew g t l := h
theorem ArrAt.drewN {w : World} {g : Nat} {t : TypeId} {l : List Value} (h : ArrAt w g t l) (n : Nat) : ArrAt (w.drewN n) g t l := h
theorem ArrAt.lt {w : World} {g : Nat} {t : TypeId} {l : List Value} (h : ArrAt w g t l) : g < w.heap.size := by
  rcases Nat.lt_or_ge g w.heap.size with hlt | hge
  · exact hlt
  · unfold ArrAt at h; rw [Array.getElem?_eq_none hge] at h; cases h
theorem ArrAt.alloc {w : World} {g : Nat} {t : TypeId} {l : List Value} (h : ArrAt w g t l) (o : Obj) : ArrAt (w.alloc o) g t l :=
  (Below.heap_alloc w o g h.lt).trans h
theorem ArrAt.below {w w' : World} {B g : Nat} {t : TypeId} {l : List Value} (h : ArrAt w g t l) (hb : Below B w w') (hg : g < B) : ArrAt w' g t l :=
  (hb.block g hg).trans h
theorem arr_new (w : World) (l : List Value) (t : TypeId) : ArrAt (w.alloc (.cells l.toArray t)) w.heap.size t l := heap_alloc_new w _
theorem ArrAt.range {w : World} {g : Nat} {t : TypeId} {l : List Value} (h : ArrAt w g t l) : w.rangeAt g 0 l := fun j v hv => by
  rw [Nat.zero_add, h.cell j, hv]
theorem ArrAt.there {w : World} {g : Nat} {t : TypeId} {l : List Value} (h : ArrAt w g t l) : w.there g 0 l.length := fun j hj => by
  rw [Nat.zero_add]
  exact ⟨by rw [h.cell j, List.getElem?_eq_getElem hj]; rfl, h.frozen j⟩

end Go.Proofs.YtoplijjddhecgaaDoor
