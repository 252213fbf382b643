/- strconv.Itoa of small numbers, and the table of powers (the seat's Shelf: tools/shelf.sh SEAT 'Strconv\.Itoa3'). -/
import Derived.Test.YtgnecacoehedkaaDoorZG44
import Derived.Test.YtgnecacoehedkaaDoorZShelf
import Derived.Lib.LaidU8
import Derived.Lib.AppendIntMem
namespace Go.Proofs.YtgnecacoehedkaaDoor
open Go.ChangeShapes Go.WideShapes Go.ChangeAt Go.RowKit
set_option linter.unusedVariables false
/-- The table of powers lies in its variable. -/
def PowIn (w : World) : Prop := Lib.TabIs Tryd.prog w "internal/strconv.uint64pow10" .u64 Lib.pow10Tab
theorem pow_named : Tryd.prog.globalNamed "internal/strconv.uint64pow10" = some 0 := by kernel_rfl
theorem PowIn.below {w w' : World} {B : Nat} (h : PowIn w) (hb : Below B w w') (h0 : 0 < B) : PowIn w' := by
 unfold PowIn Lib.TabIs World.var? at h ⊢
 rw [pow_named] at h ⊢
 simp only [Option.bind_some] at h ⊢
 rw [hb.block _ h0]
 exact h
theorem itoa_pos {x : Int} (h : 0 ≤ x) : Lib.itoa x = Lib.decDigits x.toNat := by unfold Lib.itoa; rw [if_neg (by omega)]
theorem pow_eq : (Rows.laid_internal_strconv_uint64pow10 : DataW Unit) = Lib.tabData .u64 Lib.pow10Tab := by kernel_rfl
theorem pow_reads {W : World} (h : Lib.VarReads Tryd.prog W "internal/strconv.uint64pow10" Rows.laid_internal_strconv_uint64pow10) : PowIn W := by
 rw [pow_eq] at h
 obtain ⟨g, t, cs, fuel, p, hg, ht, hv, hd⟩ := h
 obtain rfl : g = 0 := (Option.some.inj ((show Tryd.prog.globalNamed _ = some 0 by kernel_rfl).symm.trans hg)).symm
 obtain rfl : t = 112 := (Option.some.inj ((show (Tryd.prog.globals[0]?).map (·.type) = some 112 by kernel_rfl).symm.trans ht)).symm
 have hcs := Lib.cells_of_tab (zs := Lib.pow10Tab) Tryd.underlying112 Tryd.underlying106 (by kernel_rfl) (by kernel_rfl) hd
 unfold PowIn Lib.TabIs
 rw [hv, ← hcs]
theorem PowIn.pos {w : World} (hp : PowIn w) : 0 < w.heap.size := by
 unfold PowIn Lib.TabIs World.var? at hp
 rw [pow_named] at hp
 rcases Nat.lt_or_ge 0 w.heap.size with h | h
 ·exact h
 ·simp only [Option.bind_some] at hp; rw [Array.getElem?_eq_none h] at hp; cases hp
theorem iitoa (n : Int) (h0 : 0 ≤ n) (h1 : n ≤ 9999) (w : World) (hp : PowIn w) (hg : 0 < w.heap.size) : Calls Tryd.prog 54 #[.int .i64 n] w fun e w' => e = .returned (.string (digS n.toNat)) ∧ Below w.heap.size w w' := by
 have h := Tryd.strconv_Itoa n (by omega) (by omega) w hp
 refine Calls.mono (show Calls Tryd.prog 54 #[.int .i64 n] w _ from h) ?_
 rintro e w' ⟨rfl, k, os, rfl⟩
 rw [itoa_pos h0]
 exact ⟨rfl, Go.Lib.below_grow w.heap.size w (Nat.le_refl _) k os⟩
/-- A number's text, -1 too. -/
def zt (n : Int) : ByteArray := ⟨(Lib.itoa n).toArray⟩
end Go.Proofs.YtgnecacoehedkaaDoor
