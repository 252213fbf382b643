/- Nodes in the law's own words: their size, their copies, two that are alike. -/
import Derived.Test.YtfogppnijdjakaaGreatDoorZG2
import Derived.Test.YtfogppnijdjakaaGreatDoorZG1
namespace Go.Proofs.YtfogppnijdjakaaGreatDoor
open Go.ChangeShapes Go.WideShapes Go.ChangeAt Go.RowKit
set_option linter.unusedVariables false
theorem Held.setC {w : World} {lo hi : Nat} {e : TypeId} {v : Value} {n : Nat} {xs : List Value} (h : Held w lo hi e v n xs) {a : Addr} (ha : a.block < lo) (u : Value) : Held (w.setCell a u) lo hi e v n xs :=
 ⟨ownsRow_setCell_below h.1 ha u, h.2.1, by simpa using h.2.2⟩
theorem HeldZ.setC {z : Nat} {w : World} {lo hi : Nat} {e : TypeId} {v : Value} {n : Nat} {xs : List Value} (h : HeldZ z w lo hi e v n xs) {a : Addr} (ha : a.block < lo) (u : Value) : HeldZ z (w.setCell a u) lo hi e v n xs :=
 ⟨ownsRow_setCell_below h.1 ha u, h.2.1, by simpa using h.2.2⟩
theorem szI (a : Option Addr) (cap n : Nat) (hn : n ≤ maxLen) (Y : Nat) (hY : Y ≤ 1048576) (w : World) :
  Calls Tryz.prog 55 #[.slice a n cap, .int .i64 (Y : Int)] w fun e w' => ∃ x : Int, e = .returned (.int .i64 x) ∧ w' = w ∧ (x = -1 ∨ ∃ z : Nat, x = (z : Int) ∧ z + n ≤ Y) := by
 have hm : (n : Int) ≤ 9223372036854775807 := by unfold maxLen at hn; omega
 have e1 : IntKind.i64.wrap ((Y : Int) - (n : Int)) = (Y : Int) - (n : Int) := by rw [IntKind.wrap_i64]; omega
 clear hn hm
 by_cases h : n ≤ Y
 ·have h0 : ¬ ((Y : Int) - (n : Int)) < 0 := by omega
  go_enter Tryz.func55, Tryz.ntmps55
  go_wp2_with fail
  go_ret
  exact ⟨_, rfl, rfl, .inr ⟨Y - n, by omega, by omega⟩⟩
 ·have h0 : ((Y : Int) - (n : Int)) < 0 := by omega
  go_enter Tryz.func55, Tryz.ntmps55
  go_wp2_with fail
  go_ret
  exact ⟨_, rfl, rfl, .inl rfl⟩
theorem Held.lo {w : World} {lo lo2 hi : Nat} {e : TypeId} {v : Value} {n : Nat} {xs : List Value} (h : Held w lo hi e v n xs) (hle : lo2 ≤ lo) : Held w lo2 hi e v n xs := ⟨Go.Joins.ownsRow_le h.1 hle, h.2⟩
theorem HeldZ.lo {z : Nat} {w : World} {lo lo2 hi : Nat} {e : TypeId} {v : Value} {n : Nat} {xs : List Value} (h : HeldZ z w lo hi e v n xs) (hle : lo2 ≤ lo) : HeldZ z w lo2 hi e v n xs := ⟨Go.Joins.ownsRow_le h.1 hle, h.2⟩
set_option maxHeartbeats 4000000 in
set_option maxRecDepth 100000 in
theorem szNd (id nd tm vt ro cm el wt : Int) (up : Bool) (a : Option Addr) (cap n : Nat) (l : List (Int × ByteArray)) (HN : Hid (l.length = n)) (av : Option Addr) (cv nv : Nat) (lv : List Int) (HNv : Hid (lv.length = nv)) (ax : Option Addr) (cx nx : Nat) (lx : List Int) (HNx : Hid (lx.length = nx)) (ag : Option Addr) (cg ng : Nat) (lg : List Int) (HNg : Hid (lg.length = ng)) (Y : Nat) (hY : Y ≤ 1048576) (hl : Hid (n ≤ maxLen)) (hlv : Hid (nv ≤ maxLen)) (hlx : Hid (nx ≤ maxLen)) (hlg : Hid (ng ≤ maxLen)) (hsz : Hid (∀ k (h : k < l.length), l[k].2.size ≤ maxLen)) (w : World) (hr : RowV w a (cE l)) :
  Calls Tryz.prog 32 #[.agg #[.int .i64 id, .int .i64 nd, .int .i64 tm, .int .i64 vt, .int .i64 ro, .bool up, .slice a n cap, .int .i64 cm, .int .i64 el, .int .i64 wt, .slice av nv cv, .slice ax nx cx, .slice ag ng cg], .int .i64 (Y : Int)] w fun e w' => ∃ x : Int, e = .returned (.int .i64 x) ∧ Below w.heap.size w w' ∧ (x = -1 ∨ ∃ z : Nat, x = (z : Int) ∧ z + n + nv + nx + ng ≤ Y ∧ n ≤ 1048576 ∧ nv ≤ 1048576 ∧ nx ≤ 1048576 ∧ ng ≤ 1048576 ∧ ∀ k (h : k < l.length), l[k].2.size ≤ 1048576) := by
 have HB := hide (Go.Joins.below_alloc1 w (.cells #[.int .i64 id, .int .i64 nd, .int .i64 tm, .int .i64 vt, .int .i64 ro, .bool up, .slice a n cap, .int .i64 cm, .int .i64 el, .int .i64 wt, .slice av nv cv, .slice ax nx cx, .slice ag ng cg] 61))
 have A0 := hide (BF.new w #[.int .i64 id, .int .i64 nd, .int .i64 tm, .int .i64 vt, .int .i64 ro, .bool up, .slice a n cap, .int .i64 cm, .int .i64 el, .int .i64 wt, .slice av nv cv, .slice ax nx cx, .slice ag ng cg] 61)
 have HR := hide (hr.below (unhide HB))
 clear hr
 go_enter Tryz.func32, Tryz.ntmps32
 go_wp2_with fail
 refine (szEnt a cap n l HN Y hY (unhide hl) (unhide hsz) _ (unhide HR)).mono ?_
 rintro e w2 ⟨x, rfl, hb2, hx⟩
 have HB2 := hide ((unhide HB).trans (hb2.mono (unhide HB).size))
 have A2 := hide ((unhide A0).below hb2)
 clear hb2 HB HR A0
 rcases hx with rfl | ⟨z, rfl, hz, h1, h2⟩
 ·go_wp2_with fail
  go_ret
  exact ⟨_, rfl, unhide HB2, .inl rfl⟩
 have a2 := (unhide A2).S
 have hz0 : ¬ (z : Int) < 0 := by omega
 have H1 := hide h1
 have H2 := hide h2
 have HZ := hide hz
 clear h1 h2 hz
 go_wp2_with fail
 refine (szI av cv nv (unhide hlv) z (by have := unhide HZ; omega) _).mono ?_
 rintro e w' ⟨x, rfl, rfl, hx⟩
 rcases hx with rfl | ⟨zv, rfl, hzv⟩
 ·go_wp2_with fail
  go_ret
  exact ⟨_, rfl, unhide HB2, .inl rfl⟩
 have hz0v : ¬ (zv : Int) < 0 := by omega
 have HZv := hide hzv
 clear hzv hz0
 go_wp2_with fail
 refine (szI ax cx nx (unhide hlx) zv (by have := unhide HZ; have := unhide HZv; omega) _).mono ?_
 rintro e w' ⟨x, rfl, rfl, hx⟩
 rcases hx with rfl | ⟨zx, rfl, hzx⟩
 ·go_wp2_with fail
  go_ret
  exact ⟨_, rfl, unhide HB2, .inl rfl⟩
 have hz0x : ¬ (zx : Int) < 0 := by omega
 have HZx := hide hzx
 clear hzx hz0v
 go_wp2_with fail
 refine (szI ag cg ng (unhide hlg) zx (by have := unhide HZ; have := unhide HZv; have := unhide HZx; omega) _).mono ?_
 rintro e w' ⟨x, rfl, rfl, hx⟩
 rcases hx with rfl | ⟨zg, rfl, hzg⟩
 ·go_wp2_with fail
  go_ret
  exact ⟨_, rfl, unhide HB2, .inl rfl⟩
 have hz0g : ¬ (zg : Int) < 0 := by omega
 have HZg := hide hzg
 clear hzg hz0x
 go_wp2_with fail
 go_ret
 have t0 := unhide HZ
 have t1 := unhide HZv
 have t2 := unhide HZx
 have t3 := unhide HZg
 exact ⟨_, rfl, unhide HB2, .inr ⟨zg, rfl, by omega, unhide H1, by omega, by omega, by omega, unhide H2⟩⟩
set_option maxHeartbeats 4000000 in
set_option maxRecDepth 100000 in
theorem toNd (id nd tm vt ro cm el wt : Int) (up : Bool) (a : Option Addr) (cap n : Nat) (l : List (Int × ByteArray)) (HN : Hid (l.length = n)) (av : Option Addr) (cv nv : Nat) (lv : List Int) (HNv : Hid (lv.length = nv)) (ax : Option Addr) (cx nx : Nat) (lx : List Int) (HNx : Hid (lx.length = nx)) (ag : Option Addr) (cg ng : Nat) (lg : List Int) (HNg : Hid (lg.length = ng)) (hl : n ≤ 1048576) (hlv : nv ≤ 1048576) (hlx : nx ≤ 1048576) (hlg : ng ≤ 1048576) (w : World) (hr : RowV w a (cE l)) (hrv : RowV w av (cI lv)) (hrx : RowV w ax (cI lx)) (hrg : RowV w ag (cI lg)) :
  Calls Tryz.prog 42 #[.agg #[.int .i64 id, .int .i64 nd, .int .i64 tm, .int .i64 vt, .int .i64 ro, .bool up, .slice a n cap, .int .i64 cm, .int .i64 el, .int .i64 wt, .slice av nv cv, .slice ax nx cx, .slice ag ng cg]] w fun e w' => ∃ g gv gx gg p1 p2 p3, e = .returned (.agg #[.int .i64 id, .int .i64 nd, .int .i64 tm, .int .i64 vt, .int .i64 ro, .bool up, .slice (some ⟨g, 0, none⟩) n n, .int .i64 cm, .int .i64 el, .int .i64 wt, .slice (some ⟨gv, 0, none⟩) nv nv, .slice (some ⟨gx, 0, none⟩) nx nx, .slice (some ⟨gg, 0, none⟩) ng ng]) ∧ HeldZ 2 w' w.heap.size p1 103 (.slice (some ⟨g, 0, none⟩) n n) n (cE l) ∧ Held w' p1 p2 3 (.slice (some ⟨gv, 0, none⟩) nv nv) nv (cI lv) ∧ Held w' p2 p3 3 (.slice (some ⟨gx, 0, none⟩) nx nx) nx (cI lx) ∧ Held w' p3 w'.heap.size 3 (.slice (some ⟨gg, 0, none⟩) ng ng) ng (cI lg) ∧ w.heap.size ≤ p1 ∧ p1 ≤ p2 ∧ p2 ≤ p3 ∧ Below w.heap.size w w' := by
 have HR := hide hr
 have HRv := hide hrv
 have HRx := hide hrx
 have HRg := hide hrg
 obtain rfl : n = l.length := (unhide HN).symm
 obtain rfl : nv = lv.length := (unhide HNv).symm
 obtain rfl : nx = lx.length := (unhide HNx).symm
 obtain rfl : ng = lg.length := (unhide HNg).symm
 clear hr hrv hrx hrg HN HNv HNx HNg
 have B0 := hide (Go.Joins.below_alloc3 w (Obj.cells #[.int .i64 id, .int .i64 nd, .int .i64 tm, .int .i64 vt, .int .i64 ro, .bool up, .slice a l.length cap, .int .i64 cm, .int .i64 el, .int .i64 wt, .slice av lv.length cv, .slice ax lx.length cx, .slice ag lg.length cg] 61) (Obj.cells #[.int .i64 0, .int .i64 0, .int .i64 0, .int .i64 0, .int .i64 0, .bool false, .slice none 0 0, .int .i64 0, .int .i64 0, .int .i64 0, .slice none 0 0, .slice none 0 0, .slice none 0 0] 71) (Obj.cells #[.int .i64 id, .int .i64 nd, .int .i64 tm, .int .i64 vt, .int .i64 ro, .bool up, .slice none 0 0, .int .i64 0, .int .i64 0, .int .i64 0, .slice none 0 0, .slice none 0 0, .slice none 0 0] 71))
 have A0 := hide (((BF.new w #[.int .i64 id, .int .i64 nd, .int .i64 tm, .int .i64 vt, .int .i64 ro, .bool up, .slice a l.length cap, .int .i64 cm, .int .i64 el, .int .i64 wt, .slice av lv.length cv, .slice ax lx.length cx, .slice ag lg.length cg] 61).alloc (Obj.cells #[.int .i64 0, .int .i64 0, .int .i64 0, .int .i64 0, .int .i64 0, .bool false, .slice none 0 0, .int .i64 0, .int .i64 0, .int .i64 0, .slice none 0 0, .slice none 0 0, .slice none 0 0] 71)).alloc (Obj.cells #[.int .i64 id, .int .i64 nd, .int .i64 tm, .int .i64 vt, .int .i64 ro, .bool up, .slice none 0 0, .int .i64 0, .int .i64 0, .int .i64 0, .slice none 0 0, .slice none 0 0, .slice none 0 0] 71))
 have X0 := hide ((BF.new (w.alloc (Obj.cells #[.int .i64 id, .int .i64 nd, .int .i64 tm, .int .i64 vt, .int .i64 ro, .bool up, .slice a l.length cap, .int .i64 cm, .int .i64 el, .int .i64 wt, .slice av lv.length cv, .slice ax lx.length cx, .slice ag lg.length cg] 61)) #[.int .i64 0, .int .i64 0, .int .i64 0, .int .i64 0, .int .i64 0, .bool false, .slice none 0 0, .int .i64 0, .int .i64 0, .int .i64 0, .slice none 0 0, .slice none 0 0, .slice none 0 0] 71).alloc (Obj.cells #[.int .i64 id, .int .i64 nd, .int .i64 tm, .int .i64 vt, .int .i64 ro, .bool up, .slice none 0 0, .int .i64 0, .int .i64 0, .int .i64 0, .slice none 0 0, .slice none 0 0, .slice none 0 0] 71))
 have O0 := hide (BF.new ((w.alloc (Obj.cells #[.int .i64 id, .int .i64 nd, .int .i64 tm, .int .i64 vt, .int .i64 ro, .bool up, .slice a l.length cap, .int .i64 cm, .int .i64 el, .int .i64 wt, .slice av lv.length cv, .slice ax lx.length cx, .slice ag lg.length cg] 61)).alloc (Obj.cells #[.int .i64 0, .int .i64 0, .int .i64 0, .int .i64 0, .int .i64 0, .bool false, .slice none 0 0, .int .i64 0, .int .i64 0, .int .i64 0, .slice none 0 0, .slice none 0 0, .slice none 0 0] 71)) #[.int .i64 id, .int .i64 nd, .int .i64 tm, .int .i64 vt, .int .i64 ro, .bool up, .slice none 0 0, .int .i64 0, .int .i64 0, .int .i64 0, .slice none 0 0, .slice none 0 0, .slice none 0 0] 71)
 simp only [World.size_alloc] at X0 O0
 have lo1 : w.heap.size ≤ w.heap.size + 1 + 1 := by omega
 have lo2 : w.heap.size ≤ w.heap.size + 1 := by omega
 have ne1 : w.heap.size + 1 + 1 ≠ w.heap.size := by omega
 have ne2 : w.heap.size + 1 + 1 ≠ w.heap.size + 1 := by omega
 have LT : Hid (w.heap.size + 1 + 1 < (((w.alloc (Obj.cells #[.int .i64 id, .int .i64 nd, .int .i64 tm, .int .i64 vt, .int .i64 ro, .bool up, .slice a l.length cap, .int .i64 cm, .int .i64 el, .int .i64 wt, .slice av lv.length cv, .slice ax lx.length cx, .slice ag lg.length cg] 61)).alloc (Obj.cells #[.int .i64 0, .int .i64 0, .int .i64 0, .int .i64 0, .int .i64 0, .bool false, .slice none 0 0, .int .i64 0, .int .i64 0, .int .i64 0, .slice none 0 0, .slice none 0 0, .slice none 0 0] 71)).alloc (Obj.cells #[.int .i64 id, .int .i64 nd, .int .i64 tm, .int .i64 vt, .int .i64 ro, .bool up, .slice none 0 0, .int .i64 0, .int .i64 0, .int .i64 0, .slice none 0 0, .slice none 0 0, .slice none 0 0] 71)).heap.size) := by show _ < _; simp
 go_enter Tryz.func42, Tryz.ntmps42
 go_wp2_with fail
 refine (copyEnt a cap l hl _ ((unhide HR).below (unhide B0))).mono ?_
 rintro e w1 ⟨rfl, ho1, hb1⟩
 simp only [World.size_alloc] at ho1 ⊢
 obtain ⟨g, hg⟩ : ∃ g, g = w.heap.size + 1 + 1 + 1 := ⟨_, rfl⟩
 rw [← hg] at ho1 ⊢
 have E1 := hide (heldZ_of ho1)
 have B1 := hide ((unhide B0).trans (hb1.mono (unhide B0).size))
 have A1 := hide ((unhide A0).below hb1)
 have X1 := hide ((unhide X0).below hb1)
 have O1 := hide ((unhide O0).below hb1)
 have hp1 : w.heap.size + 1 + 1 < w1.heap.size := (unhide O1).lt
 have Q1 : Hid (w.heap.size + 1 + 1 < g) := by show _ < _; omega
 have hg0 := hide hg
 clear ho1 hb1 B0 A0 X0 O0 hg LT
 have o1 := (unhide O1).S
 have of1 := (unhide O1).F
 have a1 := (unhide A1).S
 have O1 : Hid (BF (w.heap.size + 1 + 1) #[.int .i64 id, .int .i64 nd, .int .i64 tm, .int .i64 vt, .int .i64 ro, .bool up, .slice (some ⟨g, 0, none⟩) l.length l.length, .int .i64 0, .int .i64 0, .int .i64 0, .slice none 0 0, .slice none 0 0, .slice none 0 0] _) := (unhide O1).set 6 (by simp) (.slice (some ⟨g, 0, none⟩) l.length l.length)
 replace A1 := hide ((unhide A1).far ⟨w.heap.size + 1 + 1, 6, none⟩ (.slice (some ⟨g, 0, none⟩) l.length l.length) ne1)
 replace X1 := hide ((unhide X1).far ⟨w.heap.size + 1 + 1, 6, none⟩ (.slice (some ⟨g, 0, none⟩) l.length l.length) ne2)
 replace B1 := hide ((unhide B1).setCell (p := ⟨w.heap.size + 1 + 1, 6, none⟩) lo1 (.slice (some ⟨g, 0, none⟩) l.length l.length))
 replace E1 := hide ((unhide E1).setC (a := ⟨w.heap.size + 1 + 1, 6, none⟩) (unhide Q1) (.slice (some ⟨g, 0, none⟩) l.length l.length))
 have O1 : Hid (BF (w.heap.size + 1 + 1) #[.int .i64 id, .int .i64 nd, .int .i64 tm, .int .i64 vt, .int .i64 ro, .bool up, .slice (some ⟨g, 0, none⟩) l.length l.length, .int .i64 cm, .int .i64 0, .int .i64 0, .slice none 0 0, .slice none 0 0, .slice none 0 0] _) := (unhide O1).set 7 (by simp) (.int .i64 cm)
 replace A1 := hide ((unhide A1).far ⟨w.heap.size + 1 + 1, 7, none⟩ (.int .i64 cm) ne1)
 replace X1 := hide ((unhide X1).far ⟨w.heap.size + 1 + 1, 7, none⟩ (.int .i64 cm) ne2)
 replace B1 := hide ((unhide B1).setCell (p := ⟨w.heap.size + 1 + 1, 7, none⟩) lo1 (.int .i64 cm))
 replace E1 := hide ((unhide E1).setC (a := ⟨w.heap.size + 1 + 1, 7, none⟩) (unhide Q1) (.int .i64 cm))
 have O1 : Hid (BF (w.heap.size + 1 + 1) #[.int .i64 id, .int .i64 nd, .int .i64 tm, .int .i64 vt, .int .i64 ro, .bool up, .slice (some ⟨g, 0, none⟩) l.length l.length, .int .i64 cm, .int .i64 el, .int .i64 0, .slice none 0 0, .slice none 0 0, .slice none 0 0] _) := (unhide O1).set 8 (by simp) (.int .i64 el)
 replace A1 := hide ((unhide A1).far ⟨w.heap.size + 1 + 1, 8, none⟩ (.int .i64 el) ne1)
 replace X1 := hide ((unhide X1).far ⟨w.heap.size + 1 + 1, 8, none⟩ (.int .i64 el) ne2)
 replace B1 := hide ((unhide B1).setCell (p := ⟨w.heap.size + 1 + 1, 8, none⟩) lo1 (.int .i64 el))
 replace E1 := hide ((unhide E1).setC (a := ⟨w.heap.size + 1 + 1, 8, none⟩) (unhide Q1) (.int .i64 el))
 have O1 : Hid (BF (w.heap.size + 1 + 1) #[.int .i64 id, .int .i64 nd, .int .i64 tm, .int .i64 vt, .int .i64 ro, .bool up, .slice (some ⟨g, 0, none⟩) l.length l.length, .int .i64 cm, .int .i64 el, .int .i64 wt, .slice none 0 0, .slice none 0 0, .slice none 0 0] _) := (unhide O1).set 9 (by simp) (.int .i64 wt)
 replace A1 := hide ((unhide A1).far ⟨w.heap.size + 1 + 1, 9, none⟩ (.int .i64 wt) ne1)
 replace X1 := hide ((unhide X1).far ⟨w.heap.size + 1 + 1, 9, none⟩ (.int .i64 wt) ne2)
 replace B1 := hide ((unhide B1).setCell (p := ⟨w.heap.size + 1 + 1, 9, none⟩) lo1 (.int .i64 wt))
 replace E1 := hide ((unhide E1).setC (a := ⟨w.heap.size + 1 + 1, 9, none⟩) (unhide Q1) (.int .i64 wt))
 go_wp2_with fail
 refine (copyInt av cv lv hlv _ ((unhide HRv).below (unhide B1))).mono ?_
 clear o1 of1 a1
 rintro e w2 ⟨rfl, ho2, hb2⟩
 simp only [World.size_setCell] at ho2 ⊢
 obtain ⟨gv, hgv⟩ : ∃ g', g' = w1.heap.size := ⟨_, rfl⟩
 rw [← hgv] at ho2 ⊢
 have E2 := hide (held_of ho2)
 replace E1 := hide ((unhide E1).below hb2 (by have := (unhide E1).le; exact this))
 have B2 := hide ((unhide B1).trans (hb2.mono (unhide B1).size))
 have A2 := hide ((unhide A1).below hb2)
 have X2 := hide ((unhide X1).below hb2)
 have O2 := hide ((unhide O1).below hb2)
 have hp2 : gv ≤ w2.heap.size := by have := hb2.size; simp only [World.size_setCell] at this; omega
 have Q2 : Hid (w.heap.size + 1 + 1 < gv) := by show _ < _; have := (unhide O1).lt; simp only [World.size_setCell] at this; omega
 have Ggv := hide hgv
 clear ho2 hb2 B1 A1 X1 O1 hgv
 have o2 := (unhide O2).S
 have of2 := (unhide O2).F
 have a2 := (unhide A2).S
 have O2 : Hid (BF (w.heap.size + 1 + 1) #[.int .i64 id, .int .i64 nd, .int .i64 tm, .int .i64 vt, .int .i64 ro, .bool up, .slice (some ⟨g, 0, none⟩) l.length l.length, .int .i64 cm, .int .i64 el, .int .i64 wt, .slice (some ⟨gv, 0, none⟩) lv.length lv.length, .slice none 0 0, .slice none 0 0] _) := (unhide O2).set 10 (by simp) (.slice (some ⟨gv, 0, none⟩) lv.length lv.length)
 replace A2 := hide ((unhide A2).far ⟨w.heap.size + 1 + 1, 10, none⟩ (.slice (some ⟨gv, 0, none⟩) lv.length lv.length) ne1)
 replace X2 := hide ((unhide X2).far ⟨w.heap.size + 1 + 1, 10, none⟩ (.slice (some ⟨gv, 0, none⟩) lv.length lv.length) ne2)
 replace B2 := hide ((unhide B2).setCell (p := ⟨w.heap.size + 1 + 1, 10, none⟩) lo1 (.slice (some ⟨gv, 0, none⟩) lv.length lv.length))
 replace E1 := hide ((unhide E1).setC (a := ⟨w.heap.size + 1 + 1, 10, none⟩) (unhide Q1) (.slice (some ⟨gv, 0, none⟩) lv.length lv.length))
 replace E2 := hide ((unhide E2).setC (a := ⟨w.heap.size + 1 + 1, 10, none⟩) (unhide Q2) (.slice (some ⟨gv, 0, none⟩) lv.length lv.length))
 go_wp2_with fail
 refine (copyInt ax cx lx hlx _ ((unhide HRx).below (unhide B2))).mono ?_
 clear o2 of2 a2
 rintro e w3 ⟨rfl, ho3, hb3⟩
 simp only [World.size_setCell] at ho3 ⊢
 obtain ⟨gx, hgx⟩ : ∃ g', g' = w2.heap.size := ⟨_, rfl⟩
 rw [← hgx] at ho3 ⊢
 have E3 := hide (held_of ho3)
 replace E1 := hide ((unhide E1).below hb3 (by have := (unhide E1).le; exact this))
 replace E2 := hide ((unhide E2).below hb3 (by have := (unhide E2).le; exact this))
 have B3 := hide ((unhide B2).trans (hb3.mono (unhide B2).size))
 have A3 := hide ((unhide A2).below hb3)
 have X3 := hide ((unhide X2).below hb3)
 have O3 := hide ((unhide O2).below hb3)
 have hp3 : gx ≤ w3.heap.size := by have := hb3.size; simp only [World.size_setCell] at this; omega
 have Q3 : Hid (w.heap.size + 1 + 1 < gx) := by show _ < _; have := (unhide O2).lt; simp only [World.size_setCell] at this; omega
 have Ggx := hide hgx
 clear ho3 hb3 B2 A2 X2 O2 hgx
 have o3 := (unhide O3).S
 have of3 := (unhide O3).F
 have a3 := (unhide A3).S
 have O3 : Hid (BF (w.heap.size + 1 + 1) #[.int .i64 id, .int .i64 nd, .int .i64 tm, .int .i64 vt, .int .i64 ro, .bool up, .slice (some ⟨g, 0, none⟩) l.length l.length, .int .i64 cm, .int .i64 el, .int .i64 wt, .slice (some ⟨gv, 0, none⟩) lv.length lv.length, .slice (some ⟨gx, 0, none⟩) lx.length lx.length, .slice none 0 0] _) := (unhide O3).set 11 (by simp) (.slice (some ⟨gx, 0, none⟩) lx.length lx.length)
 replace A3 := hide ((unhide A3).far ⟨w.heap.size + 1 + 1, 11, none⟩ (.slice (some ⟨gx, 0, none⟩) lx.length lx.length) ne1)
 replace X3 := hide ((unhide X3).far ⟨w.heap.size + 1 + 1, 11, none⟩ (.slice (some ⟨gx, 0, none⟩) lx.length lx.length) ne2)
 replace B3 := hide ((unhide B3).setCell (p := ⟨w.heap.size + 1 + 1, 11, none⟩) lo1 (.slice (some ⟨gx, 0, none⟩) lx.length lx.length))
 replace E1 := hide ((unhide E1).setC (a := ⟨w.heap.size + 1 + 1, 11, none⟩) (unhide Q1) (.slice (some ⟨gx, 0, none⟩) lx.length lx.length))
 replace E2 := hide ((unhide E2).setC (a := ⟨w.heap.size + 1 + 1, 11, none⟩) (unhide Q2) (.slice (some ⟨gx, 0, none⟩) lx.length lx.length))
 replace E3 := hide ((unhide E3).setC (a := ⟨w.heap.size + 1 + 1, 11, none⟩) (unhide Q3) (.slice (some ⟨gx, 0, none⟩) lx.length lx.length))
 go_wp2_with fail
 refine (copyInt ag cg lg hlg _ ((unhide HRg).below (unhide B3))).mono ?_
 clear o3 of3 a3
 rintro e w4 ⟨rfl, ho4, hb4⟩
 simp only [World.size_setCell] at ho4 ⊢
 obtain ⟨gg, hgg2⟩ : ∃ g', g' = w3.heap.size := ⟨_, rfl⟩
 rw [← hgg2] at ho4 ⊢
 have E4 := hide (held_of ho4)
 replace E1 := hide ((unhide E1).below hb4 (by have := (unhide E1).le; exact this))
 replace E2 := hide ((unhide E2).below hb4 (by have := (unhide E2).le; exact this))
 replace E3 := hide ((unhide E3).below hb4 (by have := (unhide E3).le; exact this))
 have B4 := hide ((unhide B3).trans (hb4.mono (unhide B3).size))
 have A4 := hide ((unhide A3).below hb4)
 have X4 := hide ((unhide X3).below hb4)
 have O4 := hide ((unhide O3).below hb4)
 have hp4 : gg ≤ w4.heap.size := by have := hb4.size; simp only [World.size_setCell] at this; omega
 have Q4 : Hid (w.heap.size + 1 + 1 < gg) := by show _ < _; have := (unhide O3).lt; simp only [World.size_setCell] at this; omega
 have Ggg := hide hgg2
 clear ho4 hb4 B3 A3 X3 O3 hgg2
 have o4 := (unhide O4).S
 have of4 := (unhide O4).F
 have x4 := (unhide X4).S
 have xf4 := (unhide X4).F
 go_wp2_with fail
 refine bodyPost_ret (v := .agg #[.int .i64 id, .int .i64 nd, .int .i64 tm, .int .i64 vt, .int .i64 ro, .bool up, .slice (some ⟨g, 0, none⟩) l.length l.length, .int .i64 cm, .int .i64 el, .int .i64 wt, .slice (some ⟨gv, 0, none⟩) lv.length lv.length, .slice (some ⟨gx, 0, none⟩) lx.length lx.length, .slice (some ⟨gg, 0, none⟩) lg.length lg.length]) (by simp [results, Tryz.results42, go_sem, x4]) rfl ⟨g, gv, gx, gg, gv, gx, gg, rfl, ?_, ?_, ?_, ?_, ?_, ?_, ?_, ?_⟩
 ·refine HeldZ.lo (lo := g) ?_ (by have := unhide Q1; omega)
  have q1 := unhide Q1
  have q2 : w.heap.size + 1 < g := by omega
  repeat refine HeldZ.setC ?_ (by first | exact q1 | exact q2) _
  rw [unhide Ggv]; exact unhide E1
 ·have q1 := unhide Q2
  have q2 : w.heap.size + 1 < gv := by omega
  repeat refine Held.setC ?_ (by first | exact q1 | exact q2) _
  rw [unhide Ggx]; exact unhide E2
 ·have q1 := unhide Q3
  have q2 : w.heap.size + 1 < gx := by omega
  repeat refine Held.setC ?_ (by first | exact q1 | exact q2) _
  rw [unhide Ggg]; exact unhide E3
 ·simp only [World.size_setCell]
  have q1 := unhide Q4
  have q2 : w.heap.size + 1 < gg := by omega
  repeat refine Held.setC ?_ (by first | exact q1 | exact q2) _
  exact unhide E4
 ·have := unhide Q2; omega
 ·have := unhide Ggx; omega
 ·have := unhide Ggg; omega
 ·repeat refine Below.setCell ?_ (by first | exact lo1 | exact lo2) _
  exact unhide B4
set_option maxHeartbeats 4000000 in
set_option maxRecDepth 100000 in
theorem eqNd (id nd tm vt ro cm el wt : Int) (up : Bool) (a b : Option Addr) (cap cap2 n : Nat) (l : List (Int × ByteArray)) (HN : Hid (l.length = n)) (av bv : Option Addr) (cv dv nv : Nat) (lv : List Int) (HNv : Hid (lv.length = nv)) (ax bx : Option Addr) (cx dx nx : Nat) (lx : List Int) (HNx : Hid (lx.length = nx)) (ag bg : Option Addr) (cg dg ng : Nat) (lg : List Int) (HNg : Hid (lg.length = ng)) (hl : n ≤ 1048576) (hlv : nv ≤ 1048576) (hlx : nx ≤ 1048576) (hlg : ng ≤ 1048576) (w : World) (hr : RowV w a (cE l)) (hrv : RowV w av (cI lv)) (hrx : RowV w ax (cI lx)) (hrg : RowV w ag (cI lg)) (hq : RowV w b (cE l)) (hqv : RowV w bv (cI lv)) (hqx : RowV w bx (cI lx)) (hqg : RowV w bg (cI lg)) :
  Calls Tryz.prog 49 #[.agg #[.int .i64 id, .int .i64 nd, .int .i64 tm, .int .i64 vt, .int .i64 ro, .bool up, .slice a n cap, .int .i64 cm, .int .i64 el, .int .i64 wt, .slice av nv cv, .slice ax nx cx, .slice ag ng cg], .agg #[.int .i64 id, .int .i64 nd, .int .i64 tm, .int .i64 vt, .int .i64 ro, .bool up, .slice b n cap2, .int .i64 cm, .int .i64 el, .int .i64 wt, .slice bv nv dv, .slice bx nx dx, .slice bg ng dg]] w fun e w' => e = .returned (.bool true) ∧ Below w.heap.size w w' := by
 have B0 := hide (Go.Joins.below_alloc2 w (.cells #[.int .i64 id, .int .i64 nd, .int .i64 tm, .int .i64 vt, .int .i64 ro, .bool up, .slice a n cap, .int .i64 cm, .int .i64 el, .int .i64 wt, .slice av nv cv, .slice ax nx cx, .slice ag ng cg] 71) (.cells #[.int .i64 id, .int .i64 nd, .int .i64 tm, .int .i64 vt, .int .i64 ro, .bool up, .slice b n cap2, .int .i64 cm, .int .i64 el, .int .i64 wt, .slice bv nv dv, .slice bx nx dx, .slice bg ng dg] 71))
 have A0 := hide ((BF.new w #[.int .i64 id, .int .i64 nd, .int .i64 tm, .int .i64 vt, .int .i64 ro, .bool up, .slice a n cap, .int .i64 cm, .int .i64 el, .int .i64 wt, .slice av nv cv, .slice ax nx cx, .slice ag ng cg] 71).alloc (.cells #[.int .i64 id, .int .i64 nd, .int .i64 tm, .int .i64 vt, .int .i64 ro, .bool up, .slice b n cap2, .int .i64 cm, .int .i64 el, .int .i64 wt, .slice bv nv dv, .slice bx nx dx, .slice bg ng dg] 71))
 have C0 := hide (BF.new (w.alloc (.cells #[.int .i64 id, .int .i64 nd, .int .i64 tm, .int .i64 vt, .int .i64 ro, .bool up, .slice a n cap, .int .i64 cm, .int .i64 el, .int .i64 wt, .slice av nv cv, .slice ax nx cx, .slice ag ng cg] 71)) #[.int .i64 id, .int .i64 nd, .int .i64 tm, .int .i64 vt, .int .i64 ro, .bool up, .slice b n cap2, .int .i64 cm, .int .i64 el, .int .i64 wt, .slice bv nv dv, .slice bx nx dx, .slice bg ng dg] 71)
 simp only [World.size_alloc] at C0
 have neid : (id != id) = false := by simp
 have nend : (nd != nd) = false := by simp
 have netm : (tm != tm) = false := by simp
 have nevt : (vt != vt) = false := by simp
 have nero : (ro != ro) = false := by simp
 have necm : (cm != cm) = false := by simp
 have neel : (el != el) = false := by simp
 have newt : (wt != wt) = false := by simp
 have neup : (up != up) = false := by simp
 have HR := hide hr
 have HQ := hide hq
 clear hr hq
 obtain rfl : n = l.length := (unhide HN).symm
 clear HN
 have HRv := hide hrv
 have HQv := hide hqv
 clear hrv hqv
 obtain rfl : nv = lv.length := (unhide HNv).symm
 clear HNv
 have HRx := hide hrx
 have HQx := hide hqx
 clear hrx hqx
 obtain rfl : nx = lx.length := (unhide HNx).symm
 clear HNx
 have HRg := hide hrg
 have HQg := hide hqg
 clear hrg hqg
 obtain rfl : ng = lg.length := (unhide HNg).symm
 clear HNg
 go_enter Tryz.func49, Tryz.ntmps49
 go_wp2_with fail
 refine (sameEnt a b cap cap2 l hl _ ((unhide HR).below (unhide B0)) ((unhide HQ).below (unhide B0))).mono ?_
 rintro e w1 ⟨rfl, hb1⟩
 have B1 := hide ((unhide B0).trans (hb1.mono (unhide B0).size))
 have A1 := hide ((unhide A0).below hb1)
 have C1 := hide ((unhide C0).below hb1)
 clear hb1 B0 A0 C0
 have ka1 := (unhide A1).S
 have kc1 := (unhide C1).S
 go_wp2_with fail
 refine (sameInt av bv cv dv lv hlv _ ((unhide HRv).below (unhide B1)) ((unhide HQv).below (unhide B1))).mono ?_
 rintro e w2 ⟨rfl, hb2⟩
 have B2 := hide ((unhide B1).trans (hb2.mono (unhide B1).size))
 have A2 := hide ((unhide A1).below hb2)
 have C2 := hide ((unhide C1).below hb2)
 clear hb2 B1 A1 C1 ka1 kc1
 have ka2 := (unhide A2).S
 have kc2 := (unhide C2).S
 go_wp2_with fail
 refine (sameInt ax bx cx dx lx hlx _ ((unhide HRx).below (unhide B2)) ((unhide HQx).below (unhide B2))).mono ?_
 rintro e w3 ⟨rfl, hb3⟩
 have B3 := hide ((unhide B2).trans (hb3.mono (unhide B2).size))
 have A3 := hide ((unhide A2).below hb3)
 have C3 := hide ((unhide C2).below hb3)
 clear hb3 B2 A2 C2 ka2 kc2
 have ka3 := (unhide A3).S
 have kc3 := (unhide C3).S
 go_wp2_with fail
 refine (sameInt ag bg cg dg lg hlg _ ((unhide HRg).below (unhide B3)) ((unhide HQg).below (unhide B3))).mono ?_
 rintro e w4 ⟨rfl, hb4⟩
 have B4 := hide ((unhide B3).trans (hb4.mono (unhide B3).size))
 have A4 := hide ((unhide A3).below hb4)
 have C4 := hide ((unhide C3).below hb4)
 clear hb4 B3 A3 C3 ka3 kc3
 have ka4 := (unhide A4).S
 have kc4 := (unhide C4).S
 go_wp2_with fail
 go_ret
 exact ⟨rfl, unhide B4⟩
end Go.Proofs.YtfogppnijdjakaaGreatDoor
