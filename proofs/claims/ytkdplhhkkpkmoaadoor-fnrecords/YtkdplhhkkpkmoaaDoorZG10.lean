/- Texts put together: ByteS Crc FrmM NumS FrmU Bf. -/
import Derived.Test.YtkdplhhkkpkmoaaDoorZG0
import Derived.Laws.BitsAllLaws
import Derived.Laws.BitsLemmas
import Derived.Test.YtkdplhhkkpkmoaaDoorZG3
import Derived.Lib.ConvBytes
import Derived.Test.YtkdplhhkkpkmoaaDoorZG2
/- Slices of bytes: a copy owns its memory and holds the same bytes; two rows are held against each other. -/
namespace Go.Proofs.YtkdplhhkkpkmoaaDoor
open Go.ChangeShapes Go.WideShapes Go.ChangeAt Go.RowKit
def fill8 (l : List UInt8) (k : Nat) : List Value := B8 (l.take k) ++ List.replicate (l.length - k) (.int .u8 0)
end Go.Proofs.YtkdplhhkkpkmoaaDoor

/- CRC-32: what both texts reckon at every row of at most 65536 bytes. -/
namespace Go.Proofs.YtkdplhhkkpkmoaaDoor
open Go.ChangeShapes Go.WideShapes Go.ChangeAt Go.RowKit

def crcStep (x : Nat) : Nat := if x % 2 = 1 then (x / 2) ^^^ 3988292384 else x / 2
def crcN : Nat → Nat → Nat
 | 0, x => x
 | k + 1, x => crcStep (crcN k x)
def crcL (l : List UInt8) : Nat := l.foldl (fun r c => crcN 8 (r ^^^ c.toNat)) 4294967295
def chk (l : List UInt8) : Int := ((crcL l ^^^ 4294967295 : Nat) : Int)
def chkA (l : List UInt8) : Int := if 65536 < l.length then 0 else chk l
end Go.Proofs.YtkdplhhkkpkmoaaDoor

/- Frames read from bytes. Plain mathematics. -/
namespace Go.Proofs.YtkdplhhkkpkmoaaDoor
open Go.ChangeShapes Go.WideShapes Go.ChangeAt Go.RowKit
/-- The data's length that a frame's head tells. -/
def frN (l : List UInt8) : Nat := ofBE (l.take 3)
/-- What is wrong with the first frame: 0 nothing, 14 not whole, 8 none. -/
def frC (l : List UInt8) : Int := if l.length < 7 then 14 else if frN l < 1 ∨ 65536 < frN l then 8 else if l.length - 7 < frN l then 14 else if chk (l.take 3 ++ (l.drop 7).take (frN l)) = ((ofBE ((l.drop 3).take 4) : Nat) : Int) then 0 else 8
def frD (l : List UInt8) : List UInt8 := (l.drop 7).take (frN l)
def frT (l : List UInt8) : List UInt8 := (l.drop 7).drop (frN l)
/-- The frames, how many bytes they are, what is behind. -/
def frs : Nat → List UInt8 → List ByteArray × Nat × Int
 | 0, _ => ([], 0, 0)
 | f + 1, l => if l = [] then ([], 0, 0) else if frC l = 0 then (⟨(frD l).toArray⟩ :: (frs f (frT l)).1, 7 + frN l + (frs f (frT l)).2.1, (frs f (frT l)).2.2) else ([], 0, frC l)
/-- What ReadFrames answers. -/
def rdL (l : List UInt8) : List ByteArray := if 65536 < l.length then [] else (frs l.length l).1
def rdP (l : List UInt8) : Int := if 65536 < l.length then 0 else ((frs l.length l).2.1 : Int)
def rdC (l : List UInt8) : Int := if 65536 < l.length then 2 else (frs l.length l).2.2
end Go.Proofs.YtkdplhhkkpkmoaaDoor

/- l02Of: the number of a text of bytes. -/
namespace Go.Proofs.YtkdplhhkkpkmoaaDoor
open Go.ChangeShapes Go.WideShapes Go.ChangeAt Go.RowKit
end Go.Proofs.YtkdplhhkkpkmoaaDoor

/- Small laws on texts and rows of bytes, for frames. -/
namespace Go.Proofs.YtkdplhhkkpkmoaaDoor
open Go.ChangeShapes Go.WideShapes Go.ChangeAt Go.RowKit
set_option linter.unusedVariables false
theorem sizeT (s : ByteArray) : s.data.toList.length = s.size := by rw [Array.length_toList]; rfl
theorem bytes_belowT (w : World) (s : ByteArray) : Below w.heap.size w (Go.Lib.bytesWorld w 5 s) := ⟨rfl, rfl, rfl, by rw [Go.Lib.bytesWorld_size]; omega, fun k hk => Go.Lib.bytesWorld_at_old w _ s k hk⟩
theorem bytes_rowT (w : World) (s : ByteArray) : Row8 (Go.Lib.bytesWorld w 5 s) (some ⟨w.heap.size, 0, none⟩) s.data.toList := by
 refine .inr ⟨w.heap.size, 0, rfl, by rw [Go.Lib.bytesWorld_size]; omega, fun i hi => ?_⟩
 have h := Go.Lib.bytesWorld_cell w 5 s i (by rw [← sizeT]; exact hi)
 rw [Nat.zero_add, h, List.getD_eq_getElem?_getD, List.getElem?_eq_getElem hi]; rfl
end Go.Proofs.YtkdplhhkkpkmoaaDoor

/- A block that stands, and what is stored into it. -/
namespace Go.Proofs.YtkdplhhkkpkmoaaDoor
open Go.ChangeShapes Go.WideShapes Go.ChangeAt Go.RowKit
/-- A block that stands and may be written. -/
structure BF (n : Nat) (cs : Array Value) (wA : World) : Prop where
 S : ∀ o, wA.cell? ⟨n, o, none⟩ = cs[o]?
 F : ∀ o, wA.frozen? ⟨n, o, none⟩ = false
 lt : n < wA.heap.size
theorem BF.keep {n : Nat} {cs : Array Value} {wA w' : World} (h : BF n cs wA) (hs : wA.heap.size ≤ w'.heap.size) (hb : w'.heap[n]? = wA.heap[n]?) : BF n cs w' :=
 ⟨fun o => (World.cell?_of_block hb).trans (h.S o), fun o => (World.frozen?_of_block hb).trans (h.F o), Nat.lt_of_lt_of_le h.lt hs⟩
theorem BF.below {n : Nat} {cs : Array Value} {wA w' : World} (h : BF n cs wA) (hb : Below wA.heap.size wA w') : BF n cs w' := h.keep hb.size (hb.block n h.lt)
theorem BF.alloc {n : Nat} {cs : Array Value} {wA : World} (h : BF n cs wA) (o : Obj) : BF n cs (wA.alloc o) := h.below ((Below.refl _ _).alloc (Nat.le_refl _) o)
theorem BF.grown {n : Nat} {cs : Array Value} {wA w' : World} {row : Option Nat} (h : BF n cs wA) (hg : wA.grownBy w' row) (hne : row ≠ some n) : BF n cs w' := h.keep hg.size (hg.block n h.lt (fun e => hne e.symm))
theorem BF.new (wA : World) (cs : Array Value) (t : TypeId) : BF wA.heap.size cs (wA.alloc (.cells cs t)) := ⟨fun o => World.cell?_alloc_mark wA _ _ _ o, fun o => by simp [go_sem], by simp⟩
theorem BF.set {n : Nat} {cs : Array Value} {wA : World} (h : BF n cs wA) (o : Nat) (ho : o < cs.size) (v : Value) : BF n (cs.setIfInBounds o v) (wA.setCell ⟨n, o, none⟩ v) := by
 refine ⟨fun k => ?_, fun k => by rw [World.frozen?_setCell]; exact h.F k, by simpa using h.lt⟩
 by_cases e : k = o
 ·subst e
  have h1 : wA.cell? ⟨n, k, none⟩ = some cs[k] := by rw [h.S k]; exact Array.getElem?_eq_getElem ho
  rw [World.cell?_setCell_same _ _ _ h1, Array.getElem?_setIfInBounds_self_of_lt ho]
 ·rw [World.cell?_setCell_other _ _ _ _ (by intro h2; injection h2 with _ h3; exact e h3.symm), h.S k, Array.getElem?_setIfInBounds_ne (Ne.symm e)]
theorem BF.far {n : Nat} {cs : Array Value} {wA : World} (h : BF n cs wA) (a : Addr) (v : Value) (hne : a.block ≠ n) : BF n cs (wA.setCell a v) :=
 ⟨fun k => by rw [World.cell?_setCell_other _ _ _ _ (by intro h2; rw [h2] at hne; exact hne rfl)]; exact h.S k, fun k => by rw [World.frozen?_setCell]; exact h.F k, by simpa using h.lt⟩
theorem BF.drew {n : Nat} {cs : Array Value} {wA : World} (h : BF n cs wA) : BF n cs wA.drew := h.below (Below.refl _ _).drew
end Go.Proofs.YtkdplhhkkpkmoaaDoor
