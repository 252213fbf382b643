/- What FullView and DiffView answer. Plain mathematics. -/
import Derived.Test.YtnbifggochgagaaDoorVoM
import Derived.Test.YtnbifggochgagaaDoorMrI
namespace Go.Proofs.YtnbifggochgagaaDoor
open Go.ChangeShapes Go.WideShapes Go.ChangeAt Go.RowKit
set_option linter.unusedVariables false
theorem own_keepBR {w w' : World} {base : Nat} {e : TypeId} {z g n cap : Nat} {xs : List Value} (h : w.ownsRow base e z (.slice (some ⟨g, 0, none⟩) n cap) n xs) (hb : w'.heap[g]? = w.heap[g]?) : w'.ownsRow base e z (.slice (some ⟨g, 0, none⟩) n cap) n xs := by
  obtain ⟨h1, h2⟩ := h
  refine ⟨h1, ?_⟩
  rcases h2 with ⟨h2, _⟩ | ⟨g', cap', cur, hv, hbg, hgc, hrest⟩
  · cases h2
  · have e1 : g = g' := by injection hv with e1 _ _; injection e1 with e1; injection e1
    subst e1
    exact .inr ⟨g, cap', cur, hv, hbg, by rw [hb]; exact hgc, hrest⟩
theorem lit_atE (w : World) (s base : Nat) (t : TypeId) (hs : w.heap.size = s) (hb : base ≤ s) : (w.alloc (.cells #[] t)).ownsRow base t 2 (.slice (some ⟨s, 0, none⟩) 0 0) 0 (cE []) := by
  subst hs
  have := World.ownsRow_lit (e := t) (base := base) (size := 2) w #[] 0 hb (by unfold maxLen; omega) (by simp)
  simpa [cE] using this
def pkL (R : List ByteArray) (ys : List Nat) : List Rw := ys.map fun (y : Nat) => ((y : Int), R.getD y ⟨#[]⟩)
theorem pkL_len (R : List ByteArray) (ys : List Nat) : (pkL R ys).length = ys.length := by simp [pkL]
theorem pkL_snoc (R : List ByteArray) (ys : List Nat) (y : Nat) : pkL R (ys ++ [y]) = pkL R ys ++ [((y : Int), R.getD y ⟨#[]⟩)] := by simp [pkL]
theorem picks_len (n : Nat) : (picks n).length ≤ 10 := by unfold picks; have := List.length_filter_le (fun y => n.testBit y) (List.range 10); simpa using this
def fvC (nb vw vh : Int) (R : List ByteArray) : Int := if 4096 < R.length then 2 else if inB nb 0 60 && sizeB vw vh then (if rowsB vw.toNat vh.toNat R then 0 else 1) else 4
/-- What FullView answers: Number, Full, W, H, the rows, the code. -/
def FvIs (nb vw vh : Int) (R : List ByteArray) (nb2 : Int) (fu2 : Bool) (w2 h2 : Int) (L : List Rw) (c : Int) : Prop :=
  c = fvC nb vw vh R ∧ (c = 0 → nb2 = nb ∧ fu2 = true ∧ w2 = vw ∧ h2 = vh ∧ L = pkL R (List.range vh.toNat)) ∧ (c ≠ 0 → nb2 = 0 ∧ fu2 = false ∧ w2 = 0 ∧ h2 = 0 ∧ L = [])
theorem fv_ex (nb vw vh : Int) (R : List ByteArray) : ∃ nb2 fu2 w2 h2 L c, FvIs nb vw vh R nb2 fu2 w2 h2 L c := by
  by_cases h : fvC nb vw vh R = 0
  · exact ⟨nb, true, vw, vh, _, _, rfl, fun _ => ⟨rfl, rfl, rfl, rfl, rfl⟩, fun h2 => absurd h h2⟩
  · exact ⟨0, false, 0, 0, [], _, rfl, fun h2 => absurd h2 h, fun _ => ⟨rfl, rfl, rfl, rfl, rfl⟩⟩
theorem fv_len {nb vw vh : Int} {R : List ByteArray} {nb2 : Int} {fu2 : Bool} {w2 h2 : Int} {L : List Rw} {c : Int} (h : FvIs nb vw vh R nb2 fu2 w2 h2 L c) : L.length ≤ 10 := by
  by_cases hc : c = 0
  · have e := (h.2.1 hc).2.2.2.2
    have h1 := h.1
    unfold fvC at h1
    split at h1
    · omega
    · split at h1
      · rename_i hb
        rw [Bool.and_eq_true] at hb
        have hs : 2 ≤ vw ∧ vw ≤ 24 ∧ 2 ≤ vh ∧ vh ≤ 10 := of_decide_eq_true hb.2
        rw [e, pkL_len, List.length_range]; omega
      · omega
  · rw [(h.2.2 hc).2.2.2.2]; simp
/-- The rows that differ. -/
def chB (O R : List ByteArray) (y : Nat) : Bool := decide (O.getD y ⟨#[]⟩ ≠ R.getD y ⟨#[]⟩)
def dvC (fr nb vw vh : Int) (O R : List ByteArray) : Int := if 4096 < O.length ∨ 4096 < R.length then 2 else if inB nb 0 60 && (inB fr 0 (nb - 1) && sizeB vw vh) then (if rowsB vw.toNat vh.toNat O && rowsB vw.toNat vh.toNat R then 0 else 1) else 4
/-- What DiffView answers: Number, From, W, H, the rows, the code. -/
def DvIs (fr nb vw vh : Int) (O R : List ByteArray) (nb2 fr2 w2 h2 : Int) (L : List Rw) (c : Int) : Prop :=
  c = dvC fr nb vw vh O R ∧ (c = 0 → nb2 = nb ∧ fr2 = fr ∧ w2 = vw ∧ h2 = vh ∧ L = pkL R ((List.range vh.toNat).filter (chB O R))) ∧ (c ≠ 0 → nb2 = 0 ∧ fr2 = 0 ∧ w2 = 0 ∧ h2 = 0 ∧ L = [])
theorem dv_ex (fr nb vw vh : Int) (O R : List ByteArray) : ∃ nb2 fr2 w2 h2 L c, DvIs fr nb vw vh O R nb2 fr2 w2 h2 L c := by
  by_cases h : dvC fr nb vw vh O R = 0
  · exact ⟨nb, fr, vw, vh, _, _, rfl, fun _ => ⟨rfl, rfl, rfl, rfl, rfl⟩, fun h2 => absurd h h2⟩
  · exact ⟨0, 0, 0, 0, [], _, rfl, fun h2 => absurd h2 h, fun _ => ⟨rfl, rfl, rfl, rfl, rfl⟩⟩
theorem dv_len {fr nb vw vh : Int} {O R : List ByteArray} {nb2 fr2 w2 h2 : Int} {L : List Rw} {c : Int} (h : DvIs fr nb vw vh O R nb2 fr2 w2 h2 L c) : L.length ≤ 10 := by
  by_cases hc : c = 0
  · have e := (h.2.1 hc).2.2.2.2
    have h1 := h.1
    unfold dvC at h1
    split at h1
    · omega
    · split at h1
      · rename_i hb
        simp only [Bool.and_eq_true] at hb
        have hs : 2 ≤ vw ∧ vw ≤ 24 ∧ 2 ≤ vh ∧ vh ≤ 10 := of_decide_eq_true hb.2.2
        rw [e, pkL_len]
        have := List.length_filter_le (chB O R) (List.range vh.toNat)
        rw [List.length_range] at this
        omega
      · omega
  · rw [(h.2.2 hc).2.2.2.2]; simp
theorem picks_no : ∀ y < 10, ∀ s < 2 ^ y, ∀ z ∈ picks s, z < y := by decide +kernel
theorem picks_bset (f : Nat → Bool) : ∀ k, k ≤ 10 → picks (bset f k) = (List.range k).filter f := by
  intro k
  induction k with
  | zero => intro _; show picks 0 = []; decide
  | succ k ih =>
    intro hk
    have h1 := ih (by omega)
    rw [List.range_succ, List.filter_append, ← h1, show bset f (k + 1) = bset f k + (if f k then 2 ^ k else 0) from rfl]
    cases h : f k
    · simp [h]
    · simp only [if_pos]
      rw [picks_top k (by omega) _ (bset_lt f k)]
      simp [h]
end Go.Proofs.YtnbifggochgagaaDoor
