/- Texts put together: SrcB SrcN SrcT SrcC. -/
import Derived.Test.YtkdplhhkkpkmoaaDoorZSrcM
import Derived.Test.YtkdplhhkkpkmoaaDoorZG10
import Derived.Test.YtkdplhhkkpkmoaaDoorZSplitI
import Derived.Test.YtkdplhhkkpkmoaaDoorZG22
/- The specification's source: numbers and rows of bytes that are drawn. -/
namespace Go.Proofs.YtkdplhhkkpkmoaaDoor
open Go.ChangeShapes Go.WideShapes Go.ChangeAt Go.RowKit
theorem Row8.grown {w w' : World} {a : Option Addr} {l : List UInt8} {g : Nat} (h : Row8 w a l) (hg : w.grownBy w' (some g)) (hne : ApartOf a l g) : Row8 w' a l := by
 rcases hne with h0 | hne
 ·exact .inl h0
 rcases h with h | ⟨b, off, e, hlt, hc⟩
 ·exact .inl h
 ·exact .inr ⟨b, off, e, Nat.lt_of_lt_of_le hlt hg.size, fun i hi => (hg.cell_far ⟨b, off + i, none⟩ hlt (fun e2 => hne _ e (Option.some.inj e2))).trans (hc i hi)⟩
theorem alloc_at_old (w : World) (o : Obj) (k : Nat) (h : k < w.heap.size) : (w.alloc o).heap[k]? = w.heap[k]? := by
 show (w.heap.push o)[k]? = _; rw [Array.getElem?_push, if_neg (by omega)]
set_option maxRecDepth 100000 in
theorem snext (n g : Nat) (a : Option Addr) (cap : Nat) (l : List UInt8) (p s : Nat) (hn : 2 ≤ n) (hn2 : n ≤ 256) (hl : l.length ≤ 1048600) (hp : p ≤ 2000000) (hs : s < 2147483648) (w : World) (h : SrcAt w g a cap l p s) (hr : Row8 w a l) (hg : ApartOf a l g) :
  Calls Tryd.prog 26 #[.pointer (some ⟨g, 0, none⟩), .int .i64 (n : Int)] w fun e w' => ∃ x s' : Nat, e = .returned (.int .i64 (x : Int)) ∧ x < n ∧ s' < 2147483648 ∧ SrcAt w' g a cap l (p + 1) s' ∧ w.grownBy w' (some g) := by
 have HH := hide (sbyte g a cap l p s hl hp hs w h hr hg)
 have n1 : ¬ (n : Int) ≤ 1 := by omega
 have n2 : (n : Int) ≤ 256 := by omega
 have n3 : ¬ (n : Int) = 0 := by omega
 clear h hr hg hs
 go_enter Tryd.func26, Tryd.ntmps26
 go_wp2_with fail
 refine (unhide HH).mono ?_
 rintro e w2 ⟨x, s', rfl, hx, hs', hA, hG⟩
 obtain ⟨y, hy⟩ : ∃ y, y = x % n := ⟨_, rfl⟩
 have k2 : (x : Int) % (n : Int) = (y : Int) := by rw [hy]; exact (Int.natCast_emod x n).symm
 have k1 : (x : Int).tmod (n : Int) = (y : Int) := by rw [Int.tmod_eq_emod_of_nonneg (by omega)]; exact k2
 have HA := hide hA
 have HG := hide hG
 have HS := hide hs'
 have HM : Hid (y < n) := by rw [hy]; exact Nat.mod_lt x (show n > 0 by omega)
 clear hA hG hs' hy
 go_wp2_with fail
 go_ret
 exact ⟨y, s', rfl, unhide HM, unhide HS, unhide HA, unhide HG⟩
theorem ssource (a : Option Addr) (cap : Nat) (l : List UInt8) (s0 : Nat) (k1 : (l.length : Int).tmod 1000 = (s0 : Int)) (_k2 : (l.length : Int) % 1000 = (s0 : Int)) (w : World) :
  Calls Tryd.prog 12 #[.slice a l.length cap] w fun e w' => e = .returned (.pointer (some ⟨w.heap.size, 0, none⟩)) ∧ w' = w.alloc (.cells #[.slice a l.length cap, .int .i64 0, .int .i64 (s0 : Int)] 56) := by
 go_enter Tryd.func12, Tryd.ntmps12
 go_wp2_with fail
 go_ret
 exact ⟨rfl, rfl⟩
end Go.Proofs.YtkdplhhkkpkmoaaDoor

/- A source's next number as an integer. -/
namespace Go.Proofs.YtkdplhhkkpkmoaaDoor
open Go.ChangeShapes Go.WideShapes Go.ChangeAt Go.RowKit
set_option linter.unusedVariables false
theorem snextI (n : Nat) (g : Nat) (a : Option Addr) (cap : Nat) (l : List UInt8) (p s : Nat) (hn : 2 ≤ n) (hn2 : n ≤ 256) (hl : l.length ≤ 1048600) (hp : p ≤ 2000000) (hs : s < 2147483648) (w : World) (h : SrcAt w g a cap l p s) (hr : Row8 w a l) (hg : ApartOf a l g) :
  Calls Tryd.prog 26 #[.pointer (some ⟨g, 0, none⟩), .int .i64 (n : Int)] w fun e w' => ∃ (x : Int) (s' : Nat), e = .returned (.int .i64 x) ∧ (0 ≤ x ∧ x < n) ∧ s' < 2147483648 ∧ SrcAt w' g a cap l (p + 1) s' ∧ w.grownBy w' (some g) := by
 refine (snext n g a cap l p s hn hn2 hl hp hs w h hr hg).mono ?_
 rintro e w' ⟨x, s', rfl, hx, h1, h2, h3⟩
 exact ⟨x, s', rfl, ⟨by omega, by omega⟩, h1, h2, h3⟩
theorem grown_set {w c : World} {g B : Nat} (h : w.grownBy c (some g)) (hB : w.heap.size ≤ B) (o : Nat) (v : Value) : w.grownBy (c.setCell ⟨B, o, none⟩ v) (some g) :=
 ⟨h.os, h.tape, h.output, by rw [World.size_setCell]; exact h.size, fun k hk hne => (Below.heap_setCell _ _ _ k (by show k ≠ B; omega)).trans (h.block k hk hne)⟩
end Go.Proofs.YtkdplhhkkpkmoaaDoor

/- A source's drawn texts. -/
namespace Go.Proofs.YtkdplhhkkpkmoaaDoor
open Go.ChangeShapes Go.WideShapes Go.ChangeAt Go.RowKit
set_option linter.unusedVariables false
set_option maxRecDepth 100000 in
theorem spick (g b cap2 : Nat) (m : List ByteArray) (a : Option Addr) (cap : Nat) (l : List UInt8) (p s : Nat) (hm : 2 ≤ m.length) (hm2 : m.length ≤ 256) (hl : l.length ≤ 1048600) (hp : p ≤ 2000000) (hs : s < 2147483648) (w : World) (hb : b < w.heap.size) (hbg : b ≠ g) (hc : ∀ k (h : k < m.length), w.cell? ⟨b, k, none⟩ = some (.string m[k])) (h : SrcAt w g a cap l p s) (hr : Row8 w a l) (hg : ApartOf a l g) :
  Calls Tryd.prog 41 #[.pointer (some ⟨g, 0, none⟩), .slice (some ⟨b, 0, none⟩) m.length cap2] w fun e w' => ∃ x : Nat, ∃ (hx : x < m.length) (s' : Nat), e = .returned (.string m[x]) ∧ s' < 2147483648 ∧ SrcAt w' g a cap l (p + 1) s' ∧ w.grownBy w' (some g) := by
 have HH := hide (snext m.length g a cap l p s hm hm2 hl hp hs w h hr hg)
 have n0 : ((m.length : Int) == 0) = false := beq_eq_false_iff_ne.2 (by omega)
 have n1 : ¬ (m.length : Int) = 0 := by omega
 have HC := hide hc
 clear h hr hg hs hc
 go_enter Tryd.func41, Tryd.ntmps41
 go_wp2_with fail
 refine (unhide HH).mono ?_
 rintro e w2 ⟨x, s', rfl, hx, hs', hA, hG⟩
 have hc2 : w2.cell? ⟨b, x, none⟩ = some (.string m[x]) := (World.cell?_of_block (hG.block b hb (fun e => hbg (by injection e)))).trans (unhide HC x hx)
 have hx1 : (x : Int) < (m.length : Int) := by omega
 have hx0 : (0 : Int) ≤ (x : Int) := by omega
 have HA := hide hA
 have HG := hide hG
 have HS := hide hs'
 have HX := hide hx
 clear hA hG hs'
 go_wp2_with fail
 go_ret
 exact ⟨x, unhide HX, s', rfl, unhide HS, unhide HA, unhide HG⟩
/-- The four texts that a source draws from. -/
def texts4 : List ByteArray := [⟨#[]⟩, ⟨#[97]⟩, ⟨#[116, 101, 120, 116]⟩, ⟨#[0, 1]⟩]
theorem grown_alloc (w : World) (o : Obj) (row : Option Nat) : w.grownBy (w.alloc o) row := ⟨rfl, rfl, rfl, by simp, fun k hk _ => alloc_at_old w _ k hk⟩
end Go.Proofs.YtkdplhhkkpkmoaaDoor

/- A source's draws of commands: chances, names of windows, what a program puts out. -/
namespace Go.Proofs.YtkdplhhkkpkmoaaDoor
open Go.ChangeShapes Go.WideShapes Go.ChangeAt Go.RowKit
set_option linter.unusedVariables false
theorem cells_texts (m : List ByteArray) (w : World) (t : TypeId) (xs : Array Value) (hx : xs = (m.map Value.string).toArray) (k : Nat) (h : k < m.length) : (w.alloc (.cells xs t)).cell? ⟨w.heap.size, k, none⟩ = some (.string m[k]) := by
 rw [World.cell?_alloc_mark, hx]
 simp [h]
theorem sizes_of {m : List ByteArray} {lo hi : Nat} (h : (m.all fun b => decide (lo ≤ b.size) && decide (b.size ≤ hi)) = true) (k : Nat) (hk : k < m.length) : lo ≤ m[k].size ∧ m[k].size ≤ hi := by
 have := List.all_eq_true.1 h m[k] (List.getElem_mem hk)
 simpa using this
def textsO : List ByteArray := [⟨#[116, 101, 120, 116]⟩, ⟨#[97]⟩, ⟨#[13, 10]⟩, ⟨#[10]⟩, ⟨#[8]⟩, ⟨#[9]⟩, ⟨#[27, 91, 72]⟩, ⟨#[27, 91, 50, 74]⟩, ⟨#[27, 91, 75]⟩, ⟨#[27, 91, 49, 59, 51, 49, 109]⟩, ⟨#[27, 91, 48, 109]⟩, ⟨#[27, 91, 51, 59, 50, 72]⟩, ⟨#[27, 91, 50, 65]⟩, ⟨#[27, 91, 66]⟩, ⟨#[27, 91, 53, 67]⟩, ⟨#[27, 91, 68]⟩, ⟨#[27, 91, 50, 59, 52, 114]⟩, ⟨#[27, 91, 114]⟩, ⟨#[27, 91, 76]⟩, ⟨#[27, 91, 50, 77]⟩, ⟨#[27, 55]⟩, ⟨#[27, 56]⟩, ⟨#[27, 68]⟩, ⟨#[27, 77]⟩, ⟨#[27, 69]⟩, ⟨#[27, 99]⟩, ⟨#[27, 93, 48, 59, 116, 105, 116, 108, 101, 7]⟩, ⟨#[27, 93, 120, 27, 92]⟩, ⟨#[195, 164]⟩, ⟨#[226, 130, 172]⟩, ⟨#[240, 159, 152, 128]⟩, ⟨#[128]⟩, ⟨#[226, 40]⟩, ⟨#[27, 91, 63, 50, 53, 104]⟩, ⟨#[27, 91, 49, 59, 50, 59, 51, 59, 52, 59, 53, 59, 54, 59, 55, 59, 56, 59, 57, 109]⟩, ⟨#[27, 91, 57, 57, 57, 57, 57, 65]⟩, ⟨#[27, 91, 49, 36, 120]⟩, ⟨#[7]⟩, ⟨#[27, 91, 83]⟩, ⟨#[27, 91, 84]⟩, ⟨#[27, 91, 49, 74]⟩, ⟨#[27, 91, 49, 75]⟩, ⟨#[119, 114, 97, 112, 32, 97, 114, 111, 117, 110, 100, 32, 105, 116]⟩]
def textsW : List ByteArray := [⟨#[109, 97, 105, 110]⟩, ⟨#[108, 111, 103, 115]⟩, ⟨#[101, 100, 105, 116]⟩]
def textsR : List ByteArray := [⟨#[109, 97, 105, 110]⟩, ⟨#[111, 116, 104, 101, 114]⟩, ⟨#[108, 111, 103, 115]⟩]
end Go.Proofs.YtkdplhhkkpkmoaaDoor
