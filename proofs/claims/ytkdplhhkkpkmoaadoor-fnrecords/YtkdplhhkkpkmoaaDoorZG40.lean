/- Texts put together: SamI ArrM LatI LawL. -/
import Derived.Test.YtkdplhhkkpkmoaaDoorZG39
import Derived.Test.YtkdplhhkkpkmoaaDoorZSteI
import Derived.Test.YtkdplhhkkpkmoaaDoorZG0
import Derived.Deep.MidRow
import Derived.WalkSmall
import Derived.Deep.QuietTactic
import Derived.BigQuiet
import Derived.Test.YtkdplhhkkpkmoaaDoorZRowV
import Derived.Test.YtkdplhhkkpkmoaaDoorZG3
/- States held against each other: what the program answers. -/
namespace Go.Proofs.YtkdplhhkkpkmoaaDoor
open Go.ChangeShapes Go.WideShapes Go.ChangeAt Go.RowKit
set_option linter.unusedVariables false
set_option maxHeartbeats 4000000 in
set_option maxRecDepth 100000 in
theorem isame (tm vt : Int) (a : Option Addr) (cap n : Nat) (l : List Ent) (HN : Hid (l.length = n)) (hn : n ≤ 1048576) (HSZ : Hid (∀ k (h : k < l.length), l[k].2.size ≤ 1048576)) (tm2 vt2 : Int) (a2 : Option Addr) (cap2 n2 : Nat) (m : List Ent) (HN2 : Hid (m.length = n2)) (hn2 : n2 ≤ 1048576) (HSZ2 : Hid (∀ k (h : k < m.length), m[k].2.size ≤ 1048576)) (R : Bool) (c : Int) (HIS : Hid (SameIs tm vt l tm2 vt2 m R c)) (w : World) (hr : RowV w a (cE l)) (hr2 : RowV w a2 (cE m)) :
  Calls Tryd.prog 11 #[.agg #[.int .i64 tm, .int .i64 vt, .slice a n cap], .agg #[.int .i64 tm2, .int .i64 vt2, .slice a2 n2 cap2]] w fun e w' => e = .returned (.tuple #[.bool R, .int .i64 c]) ∧ Below w.heap.size w w' := by
 have B0 := hide (Go.Joins.below_alloc2 w (.cells #[.int .i64 tm, .int .i64 vt, .slice a n cap] 25) (.cells #[.int .i64 tm2, .int .i64 vt2, .slice a2 n2 cap2] 25))
 have A0 := hide ((BF.new w #[.int .i64 tm, .int .i64 vt, .slice a n cap] 25).alloc (.cells #[.int .i64 tm2, .int .i64 vt2, .slice a2 n2 cap2] 25))
 have C0 := hide (BF.new (w.alloc (.cells #[.int .i64 tm, .int .i64 vt, .slice a n cap] 25)) #[.int .i64 tm2, .int .i64 vt2, .slice a2 n2 cap2] 25)
 rw [show (w.alloc (.cells #[.int .i64 tm, .int .i64 vt, .slice a n cap] 25)).heap.size = w.heap.size + 1 from by simp] at C0
 have HRW1 := hide (hr.below (unhide B0))
 have HRW2 := hide (hr2.below (unhide B0))
 clear hr hr2
 rcases unhide HIS with ⟨k1, k2, hR, rfl⟩ | ⟨k1 | ⟨k1, k2⟩, rfl, rfl⟩
 ·have HK1 := hide k1.symm
  have HK2 := hide k2.symm
  have HP1 := hide (state_parts k1).2.2.1
  have HP2 := hide (state_parts k2).2.2.1
  have HR := hide hR
  clear HIS k1 k2 hR
  go_enter Tryd.func11, Tryd.ntmps11
  go_wp2_with fail
  refine (istateok tm vt a cap n l HN hn HSZ true HK1 _ (unhide HRW1)).mono ?_
  rintro e w1 ⟨rfl, hb⟩
  have B1 := hide ((unhide B0).trans (hb.mono (unhide B0).size))
  have A1 := hide ((unhide A0).below hb)
  have C1 := hide ((unhide C0).below hb)
  replace HRW1 := hide ((unhide HRW1).below hb)
  replace HRW2 := hide ((unhide HRW2).below hb)
  clear hb B0 A0 C0
  have ka1 := (unhide A1).S
  have kc1 := (unhide C1).S
  go_wp2_with fail
  refine (istateok tm2 vt2 a2 cap2 n2 m HN2 hn2 HSZ2 true HK2 _ (unhide HRW2)).mono ?_
  rintro e w2 ⟨rfl, hb⟩
  have B2 := hide ((unhide B1).trans (hb.mono (unhide B1).size))
  have A2 := hide ((unhide A1).below hb)
  have C2 := hide ((unhide C1).below hb)
  replace HRW1 := hide ((unhide HRW1).below hb)
  replace HRW2 := hide ((unhide HRW2).below hb)
  clear hb B1 A1 C1
  have ka2 := (unhide A2).S
  have kc2 := (unhide C2).S
  have hp1 : n ≤ 60 := by have := unhide HP1; rw [unhide HN] at this; exact this
  have hp2 : n2 ≤ 60 := by have := unhide HP2; rw [unhide HN2] at this; exact this
  clear HP1 HP2
  by_cases h1 : tm = tm2
  ·by_cases h2 : vt = vt2
   ·subst h1 h2
    have HR1 := hide ((unhide HR).trans sm4)
    go_wp2_with fail
    refine (iequal a a2 cap cap2 n n2 l m HN HN2 hp1 hp2 R HR1 _ (unhide HRW1) (unhide HRW2)).mono ?_
    rintro e w3 ⟨rfl, hb⟩
    have B3 := hide ((unhide B2).trans (hb.mono (unhide B2).size))
    clear hb B2 A2 C2
    go_wp2_with fail
    go_ret2
    exact ⟨rfl, unhide B3⟩
   ·subst h1
    obtain rfl : R = false := (unhide HR).trans (sm2 h2)
    have hb2 : (vt == vt2) = false := by simpa using h2
    go_wp2_with fail
    go_ret2
    exact ⟨rfl, unhide B2⟩
  ·obtain rfl : R = false := (unhide HR).trans (sm1 h1)
   have hb1 : (tm == tm2) = false := by simpa using h1
   go_wp2_with fail
   go_ret2
   exact ⟨rfl, unhide B2⟩
 ·have HK1 := hide k1.symm
  clear HIS k1
  go_enter Tryd.func11, Tryd.ntmps11
  go_wp2_with fail
  refine (istateok tm vt a cap n l HN hn HSZ false HK1 _ (unhide HRW1)).mono ?_
  rintro e w1 ⟨rfl, hb⟩
  have B1 := hide ((unhide B0).trans (hb.mono (unhide B0).size))
  have A1 := hide ((unhide A0).below hb)
  have C1 := hide ((unhide C0).below hb)
  replace HRW1 := hide ((unhide HRW1).below hb)
  replace HRW2 := hide ((unhide HRW2).below hb)
  clear hb B0 A0 C0
  have ka1 := (unhide A1).S
  have kc1 := (unhide C1).S
  go_wp2_with fail
  go_ret2
  exact ⟨rfl, unhide B1⟩
 ·have HK1 := hide k1.symm
  have HK2 := hide k2.symm
  clear HIS k1 k2
  go_enter Tryd.func11, Tryd.ntmps11
  go_wp2_with fail
  refine (istateok tm vt a cap n l HN hn HSZ true HK1 _ (unhide HRW1)).mono ?_
  rintro e w1 ⟨rfl, hb⟩
  have B1 := hide ((unhide B0).trans (hb.mono (unhide B0).size))
  have A1 := hide ((unhide A0).below hb)
  have C1 := hide ((unhide C0).below hb)
  replace HRW1 := hide ((unhide HRW1).below hb)
  replace HRW2 := hide ((unhide HRW2).below hb)
  clear hb B0 A0 C0
  have ka1 := (unhide A1).S
  have kc1 := (unhide C1).S
  go_wp2_with fail
  refine (istateok tm2 vt2 a2 cap2 n2 m HN2 hn2 HSZ2 false HK2 _ (unhide HRW2)).mono ?_
  rintro e w2 ⟨rfl, hb⟩
  have B2 := hide ((unhide B1).trans (hb.mono (unhide B1).size))
  have A2 := hide ((unhide A1).below hb)
  have C2 := hide ((unhide C1).below hb)
  replace HRW1 := hide ((unhide HRW1).below hb)
  replace HRW2 := hide ((unhide HRW2).below hb)
  clear hb B1 A1 C1
  have ka2 := (unhide A2).S
  have kc2 := (unhide C2).S
  go_wp2_with fail
  go_ret2
  exact ⟨rfl, unhide B2⟩
end Go.Proofs.YtkdplhhkkpkmoaaDoor

/- Arrays in memory: a block whose cells are known. -/
namespace Go.Proofs.YtkdplhhkkpkmoaaDoor
open Go.ChangeShapes Go.WideShapes Go.ChangeAt Go.RowKit

/-- Block g holds just the cells l, and may be written. -/
def ArrAt (w : World) (g : Nat) (t : TypeId) (l : List Value) : Prop := w.heap[g]? = some (.cells l.toArray t (0, 0))
theorem ArrAt.cell {w : World} {g : Nat} {t : TypeId} {l : List Value} (h : ArrAt w g t l) (k : Nat) : w.cell? ⟨g, k, none⟩ = l[k]? := by
 rw [cell_of_row w g k l.toArray t (0, 0) h]; simp
theorem ArrAt.frozen {w : World} {g : Nat} {t : TypeId} {l : List Value} (h : ArrAt w g t l) (k : Nat) : w.frozen? ⟨g, k, none⟩ = false :=
 frozen_of_row w g k l.toArray t h
theorem ArrAt.set {w : World} {g : Nat} {t : TypeId} {l : List Value} (h : ArrAt w g t l) (k : Nat) (u : Value) : ArrAt (w.setCell ⟨g, k, none⟩ u) g t (l.set k u) := by
 have := heap_setCell_same w g k l.toArray t u h
 unfold ArrAt; rw [this]; simp
theorem ArrAt.other {w : World} {g g' : Nat} {t : TypeId} {l : List Value} (h : ArrAt w g t l) (hne : g ≠ g') (k : Nat) (u : Value) : ArrAt (w.setCell ⟨g', k, none⟩ u) g t l :=
 (heap_setCell_other w ⟨g', k, none⟩ g u hne).trans h
theorem ArrAt.drew {w : World} {g : Nat} {t : TypeId} {l : List Value} (h : ArrAt w g t l) : ArrAt w.drew g t l := h
theorem ArrAt.drewN {w : World} {g : Nat} {t : TypeId} {l : List Value} (h : ArrAt w g t l) (n : Nat) : ArrAt (w.drewN n) g t l := h
theorem ArrAt.lt {w : World} {g : Nat} {t : TypeId} {l : List Value} (h : ArrAt w g t l) : g < w.heap.size := by
 rcases Nat.lt_or_ge g w.heap.size with hlt | hge
 ·exact hlt
 ·unfold ArrAt at h; rw [Array.getElem?_eq_none hge] at h; cases h
theorem ArrAt.alloc {w : World} {g : Nat} {t : TypeId} {l : List Value} (h : ArrAt w g t l) (o : Obj) : ArrAt (w.alloc o) g t l :=
 (Below.heap_alloc w o g h.lt).trans h
theorem ArrAt.below {w w' : World} {B g : Nat} {t : TypeId} {l : List Value} (h : ArrAt w g t l) (hb : Below B w w') (hg : g < B) : ArrAt w' g t l :=
 (hb.block g hg).trans h
theorem arr_new (w : World) (l : List Value) (t : TypeId) : ArrAt (w.alloc (.cells l.toArray t)) w.heap.size t l := heap_alloc_new w _
theorem ArrAt.range {w : World} {g : Nat} {t : TypeId} {l : List Value} (h : ArrAt w g t l) : w.rangeAt g 0 l := fun j v hv => by
 rw [Nat.zero_add, h.cell j, hv]
theorem ArrAt.there {w : World} {g : Nat} {t : TypeId} {l : List Value} (h : ArrAt w g t l) : w.there g 0 l.length := fun j hj => by
 rw [Nat.zero_add]
 exact ⟨by rw [h.cell j, List.getElem?_eq_getElem hj]; rfl, h.frozen j⟩

end Go.Proofs.YtkdplhhkkpkmoaaDoor

/- The laws' own helper at. -/
namespace Go.Proofs.YtkdplhhkkpkmoaaDoor
open Go.ChangeShapes Go.WideShapes Go.ChangeAt Go.RowKit
set_option linter.unusedVariables false
end Go.Proofs.YtkdplhhkkpkmoaaDoor

/- The laws' own helpers sameTexts, sameInts, at. -/
namespace Go.Proofs.YtkdplhhkkpkmoaaDoor
open Go.ChangeShapes Go.WideShapes Go.ChangeAt Go.RowKit
set_option linter.unusedVariables false
set_option maxHeartbeats 400000 in
set_option maxRecDepth 100000 in
theorem sameTexts (a c : Option Addr) (cap cap2 : Nat) (l : List ByteArray) (hl : l.length ≤ 1048576) (w : World) (hr : RowV w a (cS l)) (hr2 : RowV w c (cS l)) :
  Calls Tryd.prog 8 #[.slice a l.length cap, .slice c l.length cap2] w fun e w' => e = .returned (.bool true) ∧ Below w.heap.size w w' := by
 have HR := hide hr
 have HR2 := hide hr2
 have HCL := hide (cS_len l)
 clear hr hr2
 have hne : ((l.length : Int) != (l.length : Int)) = false := by simp
 go_enter Tryd.func8, Tryd.ntmps8
 go_wp2_with fail
 go_loopw [5] (fun i wr => ∃ k : Nat, k ≤ l.length ∧ i = .int .i64 k ∧ Below w.heap.size w wr) (fun i _ => l.length - (intOf i).toNat)
 case atStart => exact ⟨0, by omega, rfl, Below.refl _ _⟩
 case round =>
  obtain ⟨k, hk, rfl, hb⟩ := hrel
  by_cases hlt : k < l.length
  ·obtain ⟨b, off, ha, hblt, hc⟩ := (unhide HR).at (by rw [unhide HCL]; omega)
   obtain ⟨b2, off2, ha2, hblt2, hc2⟩ := (unhide HR2).at (by rw [unhide HCL]; omega)
   subst ha ha2
   have hc1 : wr.cell? ⟨b, off + k, none⟩ = some (.string (l[k])) := (hb.cell (p := ⟨b, off + k, none⟩) hblt).trans (hc k _ (cS_at l k hlt))
   have hc3 : wr.cell? ⟨b2, off2 + k, none⟩ = some (.string (l[k])) := (hb.cell (p := ⟨b2, off2 + k, none⟩) hblt2).trans (hc2 k _ (cS_at l k hlt))
   have hlt' : (k : Int) < (l.length : Int) := by omega
   have hlt0 : (0 : Int) ≤ (k : Int) := by omega
   have hne2 : (l[k].toList != l[k].toList) = false := by simp
   clear hc hc2 HR HR2 HCL
   go_wp2_with fail
   go_region_held3 (fun w' => w'.cell? ⟨b, off + k, none⟩ = some (.string (l[k])) ∧ w'.cell? ⟨b2, off2 + k, none⟩ = some (.string (l[k]))) (go_keep) (fail)
   all_goals
    go_wp2_with fail
    go_roundw
    case rel => exact ⟨k + 1, by omega, by go_num, hb.drew⟩
    case measure => simp [intOf]; omega
  ·go_wp2_with fail
   go_ret
   exact ⟨rfl, hb⟩
end Go.Proofs.YtkdplhhkkpkmoaaDoor
