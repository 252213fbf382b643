/- Texts put together: OwnS ReadFS ReadFT ReadNumS SapS SapT InS. -/
import Derived.Test.YtkdplhhkkpkmoaaDoorZAftU
import Derived.Test.YtkdplhhkkpkmoaaDoorZG12
import Derived.Test.YtkdplhhkkpkmoaaDoorZG8
import Derived.Test.YtkdplhhkkpkmoaaDoorZG10
import Derived.OpenVars
import Derived.LaidMore
import Derived.LaidHandle
import Derived.Lib.LaidU8
import Derived.Test.YtkdplhhkkpkmoaaDoorZG4
import Derived.Test.YtkdplhhkkpkmoaaDoorZG14
import Derived.Test.YtkdplhhkkpkmoaaDoorZG0
/- spec.l07Own: a state with a log of its own. -/
namespace Go.Proofs.YtkdplhhkkpkmoaaDoor
open Go.ChangeShapes Go.WideShapes Go.ChangeAt Go.RowKit
set_option linter.unusedVariables false
end Go.Proofs.YtkdplhhkkpkmoaaDoor

/- ReadFields: what the specification answers at every row of bytes. -/
namespace Go.Proofs.YtkdplhhkkpkmoaaDoor
open Go.ChangeShapes Go.WideShapes Go.ChangeAt Go.RowKit
/-- What l02Read answers of n fields in l. -/
def ReadR (l : List UInt8) (n : Nat) (w : World) (e : Ending) (w' : World) : Prop :=
 (∃ m v c, e = .returned (.tuple #[v, .bool c]) ∧ w'.ownsRow w.heap.size 9 1 v m.length (cS m) ∧ ((c = true ∧ fldN l n = some (m, [])) ∨ (c = false ∧ m = [] ∧ ∀ m, fldN l n ≠ some (m, [])))) ∧ Below w.heap.size w w'
end Go.Proofs.YtkdplhhkkpkmoaaDoor

/- ReadFields: what the specification answers at every row of bytes; both answers in the words of the law's walk; what the row's list gives. -/
namespace Go.Proofs.YtkdplhhkkpkmoaaDoor
open Go.ChangeShapes Go.WideShapes Go.ChangeAt Go.RowKit
theorem iface_cell {W : World} {n : String} {g0 t0 : Nat} {ms : Array (String × TypeId)} {nm : String} {d : DataW Unit} (hg0 : Tryd.prog.globalNamed n = some g0) (ht0 : (Tryd.prog.globals[g0]?).map (·.type) = some t0) (hi : Tryd.prog.underlying t0 = some (.interface ms))
  (h : Lib.VarReads Tryd.prog W n (.iface nm d)) : ∃ u y, W.cell? ⟨g0, 0, none⟩ = some (.iface u y) := by
 obtain ⟨g, t, cs, fuel, p, hg, ht, hv, hd⟩ := h
 obtain rfl : g = g0 := (Option.some.inj (hg0.symm.trans hg)).symm
 obtain rfl : t = t0 := (Option.some.inj (ht0.symm.trans ht)).symm
 obtain ⟨f2, u, v, e, _, _⟩ := iface_of_trod hi hd
 refine ⟨u, v, ?_⟩
 have hc := World.var?_cell hg hv 0
 rw [hc, ← Array.getElem?_toList, e]; rfl
theorem Tryd.etA : Tryd.prog.globalNamed "errors.errorType" = some 5 := by kernel_rfl
theorem Tryd.rtA : (Tryd.prog.cutTypes.find? (·.1 == "internal/reflectlite.rtype")).map (·.2) = some 95 := by kernel_rfl
theorem Tryd.oneRowA : ((List.range 156).filter fun t => Tryd.prog.rowNamed t [101, 114, 114, 111, 114]) = [51] := by kernel_rfl
theorem Tryd.sizeA : Tryd.prog.types.size = 156 := by kernel_rfl
theorem handle_of {W : World} (h : handlesMet Tryd.prog [("errors.errorType", Rows.laid_errors_errorType)] W) : W.cell? ⟨5, 0, none⟩ = some (.iface 95 (.agg #[.pointer (some ⟨9, 51, none⟩)])) := by
 obtain ⟨name, u, ty, e1, e2, e3, e4, e5⟩ := h _ (List.mem_singleton.2 rfl)
 have en : name = [101, 114, 114, 111, 114] := (Option.some.inj e1).symm
 subst en
 obtain rfl := Option.some.inj (Tryd.rtA.symm.trans e2)
 have hm : ty ∈ (List.range 156).filter fun t => Tryd.prog.rowNamed t [101, 114, 114, 111, 114] := List.mem_filter.2 ⟨List.mem_range.2 (by rw [← Tryd.sizeA]; exact e3), e4⟩
 rw [Tryd.oneRowA] at hm
 obtain rfl := List.mem_singleton.1 hm
 have hh : typeHandle Tryd.prog 51 = .pointer (some ⟨9, 51, none⟩) := by kernel_rfl
 rw [hh] at e5
 simpa using World.var?_cell Tryd.etA e5 0
end Go.Proofs.YtkdplhhkkpkmoaaDoor

/- ReadNumbers: what the specification answers at every row of bytes. -/
namespace Go.Proofs.YtkdplhhkkpkmoaaDoor
open Go.ChangeShapes Go.WideShapes Go.ChangeAt Go.RowKit
end Go.Proofs.YtkdplhhkkpkmoaaDoor

/- spec.l07Apply of a text that is no record: what the specification answers. -/
namespace Go.Proofs.YtkdplhhkkpkmoaaDoor
open Go.ChangeShapes Go.WideShapes Go.ChangeAt Go.RowKit
set_option linter.unusedVariables false
end Go.Proofs.YtkdplhhkkpkmoaaDoor

/- spec.l07Apply of a text that has a letter and numbers: what the specification answers. -/
namespace Go.Proofs.YtkdplhhkkpkmoaaDoor
open Go.ChangeShapes Go.WideShapes Go.ChangeAt Go.RowKit
set_option linter.unusedVariables false
end Go.Proofs.YtkdplhhkkpkmoaaDoor

/- l01In, l03RuneOK: what the specification answers. -/
namespace Go.Proofs.YtkdplhhkkpkmoaaDoor
open Go.ChangeShapes Go.WideShapes Go.ChangeAt Go.RowKit
set_option linter.unusedVariables false
set_option maxHeartbeats 400000 in
set_option maxRecDepth 100000 in
theorem sin (n a b : Int) (w : World) : Calls Tryd.prog 31 #[.int .i64 n, .int .i64 a, .int .i64 b] w fun e w' => e = .returned (.bool (inB n a b)) ∧ w' = w := by
 by_cases h : a ≤ n
 ·by_cases h2 : n ≤ b
  ·go_enter Tryd.func31, Tryd.ntmps31
   go_wp2_with fail
   go_ret
   exact ⟨ret_bool (b_true ⟨h, h2⟩), rfl⟩
  ·go_enter Tryd.func31, Tryd.ntmps31
   go_wp2_with fail
   go_ret
   exact ⟨ret_bool (b_false (by omega)), rfl⟩
 ·go_enter Tryd.func31, Tryd.ntmps31
  go_wp2_with fail
  go_ret
  exact ⟨ret_bool (b_false (by omega)), rfl⟩
end Go.Proofs.YtkdplhhkkpkmoaaDoor
