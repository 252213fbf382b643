/- A source's drawn texts. -/
import Derived.Test.YtoplijjddhecgaaDoorZSrcB
import Derived.Test.YtoplijjddhecgaaDoorZSplitI
import Derived.Test.YtoplijjddhecgaaDoorZReadFS
namespace Go.Proofs.YtoplijjddhecgaaDoor
open Go.ChangeShapes Go.WideShapes Go.ChangeAt Go.RowKit
set_option linter.unusedVariables false
theorem Tryd.infT9 : (Tryd.prog.info? 9).map (fun i => (i.zero, i.size, i.bytes)) = some (some (.string ⟨#[]⟩), 1, 16) := by kernel_rfl
set_option maxRecDepth 100000 in
theorem spick (g b cap2 : Nat) (m : List ByteArray) (a : Option Addr) (cap : Nat) (l : List UInt8) (p s : Nat) (hm : 2 ≤ m.length) (hm2 : m.length ≤ 256) (hl : l.length ≤ 1048600) (hp : p ≤ 2000000) (hs : s < 2147483648) (w : World) (hb : b < w.heap.size) (hbg : b ≠ g) (hc : ∀ k (h : k < m.length), w.cell? ⟨b, k, none⟩ = some (.string m[k])) (h : SrcAt w g a cap l p s) (hr : Row8 w a l) (hg : ApartOf a l g) :
    Calls Tryd.prog 29 #[.pointer (some ⟨g, 0, none⟩), .slice (some ⟨b, 0, none⟩) m.length cap2] w fun e w' => ∃ x : Nat, ∃ (hx : x < m.length) (s' : Nat), e = .returned (.string m[x]) ∧ s' < 2147483648 ∧ SrcAt w' g a cap l (p + 1) s' ∧ w.grownBy w' (some g) := by
  have HH := hide (snext m.length g a cap l p s hm hm2 hl hp hs w h hr hg)
  have n0 : ((m.length : Int) == 0) = false := beq_eq_false_iff_ne.2 (by omega)
  have n1 : ¬ (m.length : Int) = 0 := by omega
  have HC := hide hc
  clear h hr hg hs hc
  go_enter Tryd.func29, Tryd.ntmps29
  go_wp2_with fail
  refine (unhide HH).mono ?_
  rintro e w2 ⟨x, s', rfl, hx, hs', hA, hG⟩
  have hc2 : w2.cell? ⟨b, x, none⟩ = some (.string m[x]) := (World.cell?_of_block (hG.block b hb (fun e => hbg (by injection e)))).trans (unhide HC x hx)
  have hx1 : (x : Int) < (m.length : Int) := by omega
  have hx0 : (0 : Int) ≤ (x : Int) := by omega
  have HA := hide hA
  have HG := hide hG
  have HS := hide hs'
  have HX := hide hx
  clear hA hG hs'
  go_wp2_with fail
  go_ret
  exact ⟨x, unhide HX, s', rfl, unhide HS, unhide HA, unhide HG⟩
/-- The four texts that a source draws from. -/
def texts4 : List ByteArray := [⟨#[]⟩, ⟨#[97]⟩, ⟨#[116, 101, 120, 116]⟩, ⟨#[0, 1]⟩]
theorem texts4_le : ∀ k (h : k < texts4.length), texts4[k].size ≤ 4 := by
  intro k h
  match k, h with
  | 0, _ => show (ByteArray.mk #[]).size ≤ 4; decide
  | 1, _ => show (ByteArray.mk #[97]).size ≤ 4; decide
  | 2, _ => show (ByteArray.mk #[116, 101, 120, 116]).size ≤ 4; decide
  | 3, _ => show (ByteArray.mk #[0, 1]).size ≤ 4; decide
theorem grown_alloc (w : World) (o : Obj) (row : Option Nat) : w.grownBy (w.alloc o) row := ⟨rfl, rfl, rfl, by simp, fun k hk _ => alloc_at_old w _ k hk⟩
theorem texts4_cells (w : World) (t : TypeId) (k : Nat) (h : k < texts4.length) : (w.alloc (.cells #[.string ⟨#[]⟩, .string ⟨#[97]⟩, .string ⟨#[116, 101, 120, 116]⟩, .string ⟨#[0, 1]⟩] t)).cell? ⟨w.heap.size, k, none⟩ = some (.string texts4[k]) := by
  rw [World.cell?_alloc_mark]
  match k, h with
  | 0, _ => rfl
  | 1, _ => rfl
  | 2, _ => rfl
  | 3, _ => rfl
end Go.Proofs.YtoplijjddhecgaaDoor
