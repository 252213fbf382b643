/- Nodes in the law's own words: their size, their copies, two that are alike. -/
import Derived.Test.YthbkcijkokaoeaaEntL
import Derived.Test.YthbkcijkokaoeaaIntS
namespace Go.Proofs.Ythbkcijkokaoeaa
open Go.ChangeShapes Go.WideShapes Go.ChangeAt Go.RowKit
set_option linter.unusedVariables false
theorem Held.setC {w : World} {lo hi : Nat} {e : TypeId} {v : Value} {n : Nat} {xs : List Value} (h : Held w lo hi e v n xs) {a : Addr} (ha : a.block < lo) (u : Value) : Held (w.setCell a u) lo hi e v n xs :=
  ⟨ownsRow_setCell_below h.1 ha u, h.2.1, by simpa using h.2.2⟩
theorem HeldZ.setC {z : Nat} {w : World} {lo hi : Nat} {e : TypeId} {v : Value} {n : Nat} {xs : List Value} (h : HeldZ z w lo hi e v n xs) {a : Addr} (ha : a.block < lo) (u : Value) : HeldZ z (w.setCell a u) lo hi e v n xs :=
  ⟨ownsRow_setCell_below h.1 ha u, h.2.1, by simpa using h.2.2⟩
theorem Held.lo {w : World} {lo lo2 hi : Nat} {e : TypeId} {v : Value} {n : Nat} {xs : List Value} (h : Held w lo hi e v n xs) (hle : lo2 ≤ lo) : Held w lo2 hi e v n xs := ⟨Go.Joins.ownsRow_le h.1 hle, h.2⟩
theorem HeldZ.lo {z : Nat} {w : World} {lo lo2 hi : Nat} {e : TypeId} {v : Value} {n : Nat} {xs : List Value} (h : HeldZ z w lo hi e v n xs) (hle : lo2 ≤ lo) : HeldZ z w lo2 hi e v n xs := ⟨Go.Joins.ownsRow_le h.1 hle, h.2⟩
set_option maxHeartbeats 4000000 in
set_option maxRecDepth 100000 in
theorem eqNd (id nd tm vt ro cm el wt : Int) (up : Bool) (a b : Option Addr) (cap cap2 n : Nat) (l : List (Int × ByteArray)) (HN : Hid (l.length = n)) (av bv : Option Addr) (cv dv nv : Nat) (lv : List Int) (HNv : Hid (lv.length = nv)) (ax bx : Option Addr) (cx dx nx : Nat) (lx : List Int) (HNx : Hid (lx.length = nx)) (ag bg : Option Addr) (cg dg ng : Nat) (lg : List Int) (HNg : Hid (lg.length = ng)) (hl : n ≤ 1048576) (hlv : nv ≤ 1048576) (hlx : nx ≤ 1048576) (hlg : ng ≤ 1048576) (w : World) (hr : RowV w a (cE l)) (hrv : RowV w av (cI lv)) (hrx : RowV w ax (cI lx)) (hrg : RowV w ag (cI lg)) (hq : RowV w b (cE l)) (hqv : RowV w bv (cI lv)) (hqx : RowV w bx (cI lx)) (hqg : RowV w bg (cI lg)) :
    Calls Try.prog 28 #[.agg #[.int .i64 id, .int .i64 nd, .int .i64 tm, .int .i64 vt, .int .i64 ro, .bool up, .slice a n cap, .int .i64 cm, .int .i64 el, .int .i64 wt, .slice av nv cv, .slice ax nx cx, .slice ag ng cg], .agg #[.int .i64 id, .int .i64 nd, .int .i64 tm, .int .i64 vt, .int .i64 ro, .bool up, .slice b n cap2, .int .i64 cm, .int .i64 el, .int .i64 wt, .slice bv nv dv, .slice bx nx dx, .slice bg ng dg]] w fun e w' => e = .returned (.bool true) ∧ Below w.heap.size w w' := by
  have B0 := hide (Go.Joins.below_alloc2 w (.cells #[.int .i64 id, .int .i64 nd, .int .i64 tm, .int .i64 vt, .int .i64 ro, .bool up, .slice a n cap, .int .i64 cm, .int .i64 el, .int .i64 wt, .slice av nv cv, .slice ax nx cx, .slice ag ng cg] 38) (.cells #[.int .i64 id, .int .i64 nd, .int .i64 tm, .int .i64 vt, .int .i64 ro, .bool up, .slice b n cap2, .int .i64 cm, .int .i64 el, .int .i64 wt, .slice bv nv dv, .slice bx nx dx, .slice bg ng dg] 38))
  have A0 := hide ((BF.new w #[.int .i64 id, .int .i64 nd, .int .i64 tm, .int .i64 vt, .int .i64 ro, .bool up, .slice a n cap, .int .i64 cm, .int .i64 el, .int .i64 wt, .slice av nv cv, .slice ax nx cx, .slice ag ng cg] 38).alloc (.cells #[.int .i64 id, .int .i64 nd, .int .i64 tm, .int .i64 vt, .int .i64 ro, .bool up, .slice b n cap2, .int .i64 cm, .int .i64 el, .int .i64 wt, .slice bv nv dv, .slice bx nx dx, .slice bg ng dg] 38))
  have C0 := hide (BF.new (w.alloc (.cells #[.int .i64 id, .int .i64 nd, .int .i64 tm, .int .i64 vt, .int .i64 ro, .bool up, .slice a n cap, .int .i64 cm, .int .i64 el, .int .i64 wt, .slice av nv cv, .slice ax nx cx, .slice ag ng cg] 38)) #[.int .i64 id, .int .i64 nd, .int .i64 tm, .int .i64 vt, .int .i64 ro, .bool up, .slice b n cap2, .int .i64 cm, .int .i64 el, .int .i64 wt, .slice bv nv dv, .slice bx nx dx, .slice bg ng dg] 38)
  simp only [World.size_alloc] at C0
  have neid : (id != id) = false := by simp
  have nend : (nd != nd) = false := by simp
  have netm : (tm != tm) = false := by simp
  have nevt : (vt != vt) = false := by simp
  have nero : (ro != ro) = false := by simp
  have necm : (cm != cm) = false := by simp
  have neel : (el != el) = false := by simp
  have newt : (wt != wt) = false := by simp
  have neup : (up != up) = false := by simp
  have HR := hide hr
  have HQ := hide hq
  clear hr hq
  obtain rfl : n = l.length := (unhide HN).symm
  clear HN
  have HRv := hide hrv
  have HQv := hide hqv
  clear hrv hqv
  obtain rfl : nv = lv.length := (unhide HNv).symm
  clear HNv
  have HRx := hide hrx
  have HQx := hide hqx
  clear hrx hqx
  obtain rfl : nx = lx.length := (unhide HNx).symm
  clear HNx
  have HRg := hide hrg
  have HQg := hide hqg
  clear hrg hqg
  obtain rfl : ng = lg.length := (unhide HNg).symm
  clear HNg
  go_enter Try.func28, Try.ntmps28
  go_wp2_with fail
  refine (sameEnt a b cap cap2 l hl _ ((unhide HR).below (unhide B0)) ((unhide HQ).below (unhide B0))).mono ?_
  rintro e w1 ⟨rfl, hb1⟩
  have B1 := hide ((unhide B0).trans (hb1.mono (unhide B0).size))
  have A1 := hide ((unhide A0).below hb1)
  have C1 := hide ((unhide C0).below hb1)
  clear hb1 B0 A0 C0
  have ka1 := (unhide A1).S
  have kc1 := (unhide C1).S
  go_wp2_with fail
  refine (sameInt av bv cv dv lv hlv _ ((unhide HRv).below (unhide B1)) ((unhide HQv).below (unhide B1))).mono ?_
  rintro e w2 ⟨rfl, hb2⟩
  have B2 := hide ((unhide B1).trans (hb2.mono (unhide B1).size))
  have A2 := hide ((unhide A1).below hb2)
  have C2 := hide ((unhide C1).below hb2)
  clear hb2 B1 A1 C1 ka1 kc1
  have ka2 := (unhide A2).S
  have kc2 := (unhide C2).S
  go_wp2_with fail
  refine (sameInt ax bx cx dx lx hlx _ ((unhide HRx).below (unhide B2)) ((unhide HQx).below (unhide B2))).mono ?_
  rintro e w3 ⟨rfl, hb3⟩
  have B3 := hide ((unhide B2).trans (hb3.mono (unhide B2).size))
  have A3 := hide ((unhide A2).below hb3)
  have C3 := hide ((unhide C2).below hb3)
  clear hb3 B2 A2 C2 ka2 kc2
  have ka3 := (unhide A3).S
  have kc3 := (unhide C3).S
  go_wp2_with fail
  refine (sameInt ag bg cg dg lg hlg _ ((unhide HRg).below (unhide B3)) ((unhide HQg).below (unhide B3))).mono ?_
  rintro e w4 ⟨rfl, hb4⟩
  have B4 := hide ((unhide B3).trans (hb4.mono (unhide B3).size))
  have A4 := hide ((unhide A3).below hb4)
  have C4 := hide ((unhide C3).below hb4)
  clear hb4 B3 A3 C3 ka3 kc3
  have ka4 := (unhide A4).S
  have kc4 := (unhide C4).S
  go_wp2_with fail
  go_ret
  exact ⟨rfl, unhide B4⟩
end Go.Proofs.Ythbkcijkokaoeaa
