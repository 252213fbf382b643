/- Hash: what both texts answer at every row of bytes. -/
import Derived.Test.YthcibojpeamocaaDoorSHash
import Derived.Lib.LaidTab
namespace Go.Proofs.YthcibojpeamocaaDoor
open Go.ChangeShapes Go.WideShapes Go.ChangeAt Go.RowKit

def shaA (l : List UInt8) : ByteArray := if 65536 < l.length then ⟨#[]⟩ else hashB (shaR l)
theorem shaA_long {l : List UInt8} (h : 65536 < l.length) : shaA l = ⟨#[]⟩ := by unfold shaA; rw [if_pos h]
theorem shaA_ok {l : List UInt8} (h : ¬ 65536 < l.length) : shaA l = hashB (shaR l) := by unfold shaA; rw [if_neg h]
theorem shashA (a : Option Addr) (cap : Nat) (l : List UInt8) (hl : l.length ≤ 1048576) (w : World) (hr : Row8 w a l) :
    Calls Tryd.prog 11 #[.slice a l.length cap] w fun e w' => e = .returned (.string (shaA l)) ∧ Below w.heap.size w w' := by
  have HL := hide hl
  have HR := hide hr
  clear hr
  by_cases h : 65536 < l.length
  · have HV := hide (shaA_long h)
    go_enter Tryd.func11, Tryd.ntmps11
    go_wp2_with fail
    go_ret
    rw [unhide HV]
    exact ⟨rfl, Below.refl _ _⟩
  · have HV := hide (shaA_ok h)
    go_enter Tryd.func11, Tryd.ntmps11
    go_wp2_with (go_at_call 23; refine (shash23 a cap l (unhide HL) _ (unhide HR)).mono ?_; rintro e w1 ⟨rfl, hb⟩)
    go_ret
    rw [unhide HV]
    exact ⟨rfl, hb⟩
theorem ihashA (a : Option Addr) (cap : Nat) (l : List UInt8) (hl : l.length ≤ 1048576) (w : World) (hr : Row8 w a l) (hk : KIn w) :
    Calls Tryd.prog 7 #[.slice a l.length cap] w fun e w' => e = .returned (.string (shaA l)) ∧ Below w.heap.size w w' := by
  have HL := hide hl
  have HR := hide hr
  have HK := hide hk
  clear hr hk
  by_cases h : 65536 < l.length
  · have HV := hide (shaA_long h)
    go_enter Tryd.func7, Tryd.ntmps7
    go_wp2_with fail
    go_ret
    rw [unhide HV]
    exact ⟨rfl, Below.refl _ _⟩
  · have HV := hide (shaA_ok h)
    go_enter Tryd.func7, Tryd.ntmps7
    go_wp2_with (go_at_call 20; refine (hash20 a cap l (unhide HL) _ (unhide HR) (unhide HK)).mono ?_; rintro e w1 ⟨rfl, hb⟩)
    go_ret
    rw [unhide HV]
    exact ⟨rfl, hb⟩

def kInts : List Int := kN.map Int.ofNat
theorem laid_ints : (Rows.laid_loop_example_g00308_impl_roundWords : DataW Unit) = Lib.tabData .u32 kInts := by kernel_rfl
theorem kInts_at (k : Nat) (h : k < 64) : kInts.getD k 0 = wI (gt kW k) := by
  have hl : k < kN.length := h
  have hlt : ∀ n ∈ kN, n < 4294967296 := by decide
  have hb := hlt kN[k] (List.getElem_mem _)
  unfold kInts gt kW wI
  simp [hl]
  omega
/-- What the row's list gives: the round words lie in their variable. -/
theorem rounds_laid {W : World} (h : laidMetH Tryd.prog Rows.fnExactHashRow.laid W) : KIn W := by
  obtain ⟨ps, ⟨g, t, cs, fuel, p, q, hg, ht, hv, hd, _, _⟩, _⟩ := h
  obtain rfl : g = 1 := (Option.some.inj ((show Tryd.prog.globalNamed _ = some 1 by kernel_rfl).symm.trans hg)).symm
  obtain rfl : t = 49 := (Option.some.inj ((show (Tryd.prog.globals[1]?).map (·.type) = some 49 by kernel_rfl).symm.trans ht)).symm
  rw [laid_ints] at hd
  have hc := Lib.cells_of_tab (zs := kInts) Tryd.underlying49 Tryd.underlying36 (by kernel_rfl) (by kernel_rfl) hd
  intro k hk
  have h1 := World.var?_cell hg hv k
  rw [h1, ← Array.getElem?_toList, hc]
  have hl : k < kInts.length := hk
  rw [List.getElem?_map, List.getElem?_eq_getElem hl, ← kInts_at k hk]
  simp [hl]
theorem rounds_laid2 {W : World} (h : laidMetH Tryd.prog Rows.fnHashRow.laid W) : KIn W := rounds_laid h
end Go.Proofs.YthcibojpeamocaaDoor
