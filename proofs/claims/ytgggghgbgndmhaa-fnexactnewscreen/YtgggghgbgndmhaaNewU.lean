/- A screen in a variable, and the rows that it owns, kept while other memory turns; NewScreen's answers in one form. -/
import Derived.Test.YtgggghgbgndmhaaNewS
namespace Go.Proofs.Ytgggghgbgndmhaa
open Go.ChangeShapes Go.WideShapes Go.ChangeAt Go.RowKit
/-- The block A holds these cells, the rows vc and vh lie from lo up to hi. -/
structure ScrIn (w : World) (lo hi A : Nat) (sc : Array Value) (vc vh : Value) (n m : Nat) (xs ys : List Value) : Prop where
  box : ∀ o, w.cell? ⟨A, o, none⟩ = sc[o]?
  cells : HeldZ 2 w lo hi 50 vc n xs
  hist : HeldZ 1 w lo hi 9 vh m ys
  lt : A < w.heap.size
  ge : hi ≤ A
theorem ScrIn.below {w w' : World} {lo hi A : Nat} {sc : Array Value} {vc vh : Value} {n m : Nat} {xs ys : List Value} (h : ScrIn w lo hi A sc vc vh n m xs ys) (hb : Below w.heap.size w w') : ScrIn w' lo hi A sc vc vh n m xs ys :=
  ⟨fun o => (hb.cell (p := ⟨A, o, none⟩) h.lt).trans (h.box o), h.cells.below hb h.cells.le, h.hist.below hb h.hist.le, Nat.lt_of_lt_of_le h.lt hb.size, h.ge⟩
theorem ScrIn.alloc {w : World} {lo hi A : Nat} {sc : Array Value} {vc vh : Value} {n m : Nat} {xs ys : List Value} (h : ScrIn w lo hi A sc vc vh n m xs ys) (o : Obj) : ScrIn (w.alloc o) lo hi A sc vc vh n m xs ys :=
  h.below ((Below.refl _ _).alloc (Nat.le_refl _) o)
theorem ScrIn.spared {w w' : World} {lo hi A lo2 hi2 : Nat} {sc : Array Value} {vc vh : Value} {n m : Nat} {xs ys : List Value} (h : ScrIn w lo hi A sc vc vh n m xs ys) (hs : Spared w w' lo2 hi2) (hA : A < lo2 ∨ hi2 ≤ A) (hr : hi ≤ lo2 ∨ hi2 ≤ lo) : ScrIn w' lo hi A sc vc vh n m xs ys :=
  ⟨fun o => (World.cell?_of_block (hs.block A h.lt hA)).trans (h.box o), h.cells.spared hs hr, h.hist.spared hs hr, Nat.lt_of_lt_of_le h.lt hs.size, h.ge⟩
theorem ScrIn.marked {w w' : World} {lo hi A : Nat} {sc : Array Value} {vc vh : Value} {n m : Nat} {xs ys xs' ys' : List Value} (h : ScrIn w lo hi A sc vc vh n m xs ys) (hs : Spared w w' lo hi) (hc : HeldZ 2 w' lo hi 50 vc n xs') (hh : HeldZ 1 w' lo hi 9 vh m ys') : ScrIn w' lo hi A sc vc vh n m xs' ys' :=
  ⟨fun o => (World.cell?_of_block (hs.block A h.lt (.inr h.ge))).trans (h.box o), hc, hh, Nat.lt_of_lt_of_le h.lt hs.size, h.ge⟩
/-- A screen that was just answered is laid into a new variable. -/
theorem ScrIn.laid {w : World} {lo : Nat} {sc : Array Value} {vc vh : Value} {n m : Nat} {xs ys : List Value} (hc : w.ownsRow lo 50 2 vc n xs) (hh : w.ownsRow lo 9 1 vh m ys) : ScrIn (w.alloc (.cells sc 25)) lo w.heap.size w.heap.size sc vc vh n m xs ys := by
  have hb : Below w.heap.size w (w.alloc (.cells sc 25)) := (Below.refl _ _).alloc (Nat.le_refl _) _
  exact ⟨fun o => World.cell?_alloc_mark w _ _ _ o, (heldZ_of hc).below hb (Nat.le_refl _), (heldZ_of hh).below hb (Nat.le_refl _), by simp, Nat.le_refl _⟩
def nsL (aw ah : Int) : List (Int × Int) := if sizeB aw ah then List.replicate (aw.toNat * ah.toNat) (32, 0) else []
theorem nsL_le (aw ah : Int) : (nsL aw ah).length ≤ 240 := by
  unfold nsL
  split
  · rename_i h
    unfold sizeB at h
    have := of_decide_eq_true h
    rw [List.length_replicate]
    have h1 : aw.toNat ≤ 24 := by omega
    have h2 : ah.toNat ≤ 10 := by omega
    exact Nat.mul_le_mul h1 h2
  · simp
def ns (aw ah x : Int) : Int := if sizeB aw ah then x else 0
def nsC (aw ah : Int) : Int := if sizeB aw ah then 0 else 4
theorem snewU (aw ah j0 j1 j6 c : Int) (l : List (Int × Int)) (h0 : j0 = ns aw ah aw) (h1 : j1 = ns aw ah ah) (h6 : j6 = ns aw ah (ah - 1)) (hc : c = nsC aw ah) (hl : l = nsL aw ah) (w : World) :
    Calls Try.prog 6 #[.int .i64 aw, .int .i64 ah] w fun e w' => ∃ a cap b capb, e = .returned (.tuple #[.agg #[.int .i64 j0, .int .i64 j1, .int .i64 0, .int .i64 0, .int .i64 0, .int .i64 0, .int .i64 j6, .int .i64 0, .int .i64 0, .string ⟨#[]⟩, .slice a l.length cap, .slice b 0 capb], .int .i64 c]) ∧
      w'.ownsRow w.heap.size 50 2 (.slice a l.length cap) l.length (cP l) ∧ w'.ownsRow w.heap.size 9 1 (.slice b 0 capb) 0 (cS []) ∧ Below w.heap.size w w' := by
  subst h0 h1 h6 hc hl
  refine (snewscr aw ah w).mono ?_
  intro e w' h
  cases hs : sizeB aw ah
  · simp only [hs, Bool.false_eq_true, if_false] at h
    obtain ⟨rfl, hb⟩ := h
    simp only [ns, nsC, nsL, hs, Bool.false_eq_true, if_false]
    exact ⟨none, 0, none, 0, rfl, World.ownsRow_nil _ _ _ _, World.ownsRow_nil _ _ _ _, hb⟩
  · simp only [hs, if_true] at h
    obtain ⟨vc, vh, rfl, ho, hh, hb⟩ := h
    obtain ⟨a, cap, rfl, -⟩ := ownZ_rowV ho
    obtain ⟨b, capb, rfl, -⟩ := ownZ_rowV hh
    simp only [ns, nsC, nsL, hs, if_true, List.length_replicate]
    exact ⟨a, cap, b, capb, rfl, ho, hh, hb⟩
theorem inewU (aw ah j0 j1 j6 c : Int) (l : List (Int × Int)) (h0 : j0 = ns aw ah aw) (h1 : j1 = ns aw ah ah) (h6 : j6 = ns aw ah (ah - 1)) (hc : c = nsC aw ah) (hl : l = nsL aw ah) (w : World) :
    Calls Try.prog 7 #[.int .i64 aw, .int .i64 ah] w fun e w' => ∃ a cap b capb, e = .returned (.tuple #[.agg #[.int .i64 j0, .int .i64 j1, .int .i64 0, .int .i64 0, .int .i64 0, .int .i64 0, .int .i64 j6, .int .i64 0, .int .i64 0, .string ⟨#[]⟩, .slice a l.length cap, .slice b 0 capb], .int .i64 c]) ∧
      w'.ownsRow w.heap.size 50 2 (.slice a l.length cap) l.length (cP l) ∧ w'.ownsRow w.heap.size 9 1 (.slice b 0 capb) 0 (cS []) ∧ Below w.heap.size w w' := by
  subst h0 h1 h6 hc hl
  refine (inewscr aw ah w).mono ?_
  intro e w' h
  cases hs : sizeB aw ah
  · simp only [hs, Bool.false_eq_true, if_false] at h
    obtain ⟨rfl, hb⟩ := h
    simp only [ns, nsC, nsL, hs, Bool.false_eq_true, if_false]
    exact ⟨none, 0, none, 0, rfl, World.ownsRow_nil _ _ _ _, World.ownsRow_nil _ _ _ _, hb⟩
  · simp only [hs, if_true] at h
    obtain ⟨g, rfl, ho, hb⟩ := h
    simp only [ns, nsC, nsL, hs, if_true, List.length_replicate]
    exact ⟨_, _, none, 0, rfl, ho, World.ownsRow_nil _ _ _ _, hb⟩
end Go.Proofs.Ytgggghgbgndmhaa
