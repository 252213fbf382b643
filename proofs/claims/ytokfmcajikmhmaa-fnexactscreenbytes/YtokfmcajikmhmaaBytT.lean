/- SameScreen: what both sides answer. Written by tools/bytt.py. -/
import Derived.Test.YtokfmcajikmhmaaBytI
import Derived.Test.YtokfmcajikmhmaaBytS
namespace Go.Proofs.Ytokfmcajikmhmaa
open Go.ChangeShapes Go.WideShapes Go.ChangeAt Go.RowKit
set_option linter.unusedVariables false
/-- What stands while two screens' own blocks are read. -/
structure RD (w : World) (csA csB : Array Value) (wA : World) : Prop where
  SA : ∀ o, wA.cell? ⟨w.heap.size, o, none⟩ = csA[o]?
  SB : ∀ o, wA.cell? ⟨w.heap.size + 1, o, none⟩ = csB[o]?
  blw : Below w.heap.size w wA
  lt : w.heap.size + 1 < wA.heap.size
theorem RD.below {w : World} {csA csB : Array Value} {wA w' : World} (h : RD w csA csB wA) (hb : Below wA.heap.size wA w') : RD w csA csB w' :=
  ⟨fun o => (hb.cell (p := ⟨w.heap.size, o, none⟩) (Nat.lt_of_succ_lt h.lt)).trans (h.SA o), fun o => (hb.cell (p := ⟨w.heap.size + 1, o, none⟩) h.lt).trans (h.SB o), h.blw.trans (hb.mono h.blw.size), Nat.lt_of_lt_of_le h.lt hb.size⟩
theorem RD.drew {w : World} {csA csB : Array Value} {wA : World} (h : RD w csA csB wA) : RD w csA csB wA.drew := h.below (Below.refl _ _).drew
theorem RD.start (w : World) (csA csB : Array Value) (ta tb : TypeId) : RD w csA csB ((w.alloc (.cells csA ta)).alloc (.cells csB tb)) :=
  ⟨fun o => (World.cell?_alloc_past _ _ _ (by simp)).trans (World.cell?_alloc_mark w _ _ _ o), fun o => by have := World.cell?_alloc_mark (w.alloc (.cells csA ta)) csB tb (0, 0) o; rw [show (w.alloc (.cells csA ta)).heap.size = w.heap.size + 1 from by simp] at this; exact this, ((Below.refl w.heap.size w).alloc (Nat.le_refl _) _).alloc (by simp) _, by simp⟩
def ssV (okA okC : Bool) (LA LC : List UInt8) : Bool := okA && (okC && (LA == LC))
def ssC (okA okC : Bool) : Int := if okA && okC then 0 else 1
theorem sbytesI (i0 i1 i2 i3 i4 i5 i6 i7 i8 : Int) (t : ByteArray) (a : Option Addr) (cap : Nat) (l : List (Int × Int)) (b : Option Addr) (capb : Nat) (m : List ByteArray) (hl : l.length ≤ 1048576) (hcap : l.length ≤ cap) (h : (okB i0 i1 i2 i3 i4 i5 i6 i7 i8 t.data.toList l m) = true) (w : World) (hr : RowV w a (cP l)) (hs : RowV w b (cS m)) :
    Calls Try.prog 16 #[.agg #[.int .i64 i0, .int .i64 i1, .int .i64 i2, .int .i64 i3, .int .i64 i4, .int .i64 i5, .int .i64 i6, .int .i64 i7, .int .i64 i8, .string t, .slice a l.length cap, .slice b m.length capb]] w fun e w' => e = .returned (.string ⟨(sbV (okB i0 i1 i2 i3 i4 i5 i6 i7 i8 t.data.toList l m) i0 i1 i2 i3 i4 i5 i6 i7 i8 t l m).toArray⟩) ∧ Below w.heap.size w w' := by
  obtain ⟨W, H, e0, e1, -⟩ := ok_parts h
  subst e0 e1
  have T := sbytes W H i2 i3 i4 i5 i6 i7 i8 t a cap l b capb m hl hcap h w hr hs
  rw [h]
  unfold sbV
  rw [if_pos rfl, Int.toNat_natCast, Int.toNat_natCast]
  exact T
end Go.Proofs.Ytokfmcajikmhmaa
