/- Whether a log is up to date: what the specification answers. -/
import Derived.Test.YtejedkkpllfpeaaUtM
import Derived.Test.YtejedkkpllfpeaaNdS
namespace Go.Proofs.Ytejedkkpllfpeaa
open Go.ChangeShapes Go.WideShapes Go.ChangeAt Go.RowKit
set_option linter.unusedVariables false
set_option maxHeartbeats 4000000 in
set_option maxRecDepth 100000 in
theorem stermat (id nd tm vt ro cm el wt : Int) (up : Bool) (a : Option Addr) (cap n : Nat) (av : Option Addr) (cv nv : Nat) (ax : Option Addr) (cx nx : Nat) (ag : Option Addr) (cg ng : Nat) (l : List Ent) (HN : Hid (l.length = n)) (hn : n ≤ 1048576) (k : Nat) (hk : k ≤ n) (TT : Int) (HT : Hid (TT = tAt l k)) (w : World) (hr : RowV w a (cE l)) :
    Calls Try.prog 24 #[.agg #[.int .i64 id, .int .i64 nd, .int .i64 tm, .int .i64 vt, .int .i64 ro, .bool up, .slice a n cap, .int .i64 cm, .int .i64 el, .int .i64 wt, .slice av nv cv, .slice ax nx cx, .slice ag ng cg], .int .i64 (k : Int)] w fun e w' => e = .returned (.int .i64 TT) ∧ Below w.heap.size w w' := by
  have B0 := hide (Go.Joins.below_alloc1 w (.cells #[.int .i64 id, .int .i64 nd, .int .i64 tm, .int .i64 vt, .int .i64 ro, .bool up, .slice a n cap, .int .i64 cm, .int .i64 el, .int .i64 wt, .slice av nv cv, .slice ax nx cx, .slice ag ng cg] 31))
  by_cases h0 : k = 0
  · have z1 : ((k : Int) == 0) = true := by simpa using h0
    obtain rfl : TT = 0 := by rw [unhide HT, h0]; exact tAt_zero l
    clear h0 HT
    go_enter Try.func24, Try.ntmps24
    go_wp2_with fail
    go_ret
    exact ⟨rfl, unhide B0⟩
  · have z1 : ((k : Int) == 0) = false := by simpa using h0
    obtain ⟨j, hj⟩ : ∃ j, k = j + 1 := ⟨k - 1, by omega⟩
    have hjl : j < l.length := by rw [unhide HN]; omega
    obtain ⟨b, off, ha, hblt, hc⟩ := hr.at (by rw [cE_len, unhide HN]; omega)
    subst ha
    obtain ⟨x0, x1⟩ := row_ent hc j hjl
    have hT : TT = l[j].1 := by rw [unhide HT, hj]; exact tAt_succ l j hjl
    rw [← hT] at x0
    have hx0 := ((unhide B0).cell (p := ⟨b, off + j * 2, none⟩) hblt).trans x0
    have hw1 : IntKind.i64.wrap ((k : Int) - 1) = (j : Int) := by rw [wrapi _ (by omega) (by omega)]; omega
    have hj1 : (j : Int) < (n : Int) := by omega
    have hj0 : (0 : Int) ≤ (j : Int) := by omega
    clear hc x0 x1 hT hj hjl h0 HT hk
    go_enter Try.func24, Try.ntmps24
    go_wp2_with fail
    go_ret
    exact ⟨rfl, unhide B0⟩
set_option maxHeartbeats 4000000 in
set_option maxRecDepth 100000 in
theorem suptod (id nd tm vt ro cm el wt : Int) (up : Bool) (a : Option Addr) (cap n : Nat) (av : Option Addr) (cv nv : Nat) (ax : Option Addr) (cx nx : Nat) (ag : Option Addr) (cg ng : Nat) (l : List Ent) (HN : Hid (l.length = n)) (hn : n ≤ 1048576) (iq tq : Int) (TT : Int) (HT : Hid (TT = tAt l n)) (U : Bool) (HU : Hid (U = utB (n : Int) TT iq tq)) (w : World) (hr : RowV w a (cE l)) :
    Calls Try.prog 12 #[.agg #[.int .i64 id, .int .i64 nd, .int .i64 tm, .int .i64 vt, .int .i64 ro, .bool up, .slice a n cap, .int .i64 cm, .int .i64 el, .int .i64 wt, .slice av nv cv, .slice ax nx cx, .slice ag ng cg], .int .i64 iq, .int .i64 tq] w fun e w' => e = .returned (.bool U) ∧ Below w.heap.size w w' := by
  have B0 := hide (Go.Joins.below_alloc1 w (.cells #[.int .i64 id, .int .i64 nd, .int .i64 tm, .int .i64 vt, .int .i64 ro, .bool up, .slice a n cap, .int .i64 cm, .int .i64 el, .int .i64 wt, .slice av nv cv, .slice ax nx cx, .slice ag ng cg] 31))
  have A0 := hide (BF.new w #[.int .i64 id, .int .i64 nd, .int .i64 tm, .int .i64 vt, .int .i64 ro, .bool up, .slice a n cap, .int .i64 cm, .int .i64 el, .int .i64 wt, .slice av nv cv, .slice ax nx cx, .slice ag ng cg] 31)
  have HR := hide hr
  clear hr
  go_enter Try.func12, Try.ntmps12
  go_wp2_with fail
  refine (stermat id nd tm vt ro cm el wt up a cap n av cv nv ax cx nx ag cg ng l HN hn n (Nat.le_refl _) TT HT _ ((unhide HR).below (unhide B0))).mono ?_
  rintro e w3 ⟨rfl, hb3⟩
  have B3 := hide ((unhide B0).trans (hb3.mono (unhide B0).size))
  have A3 := hide ((unhide A0).below hb3)
  clear hb3 B0 A0
  have a3 := (unhide A3).S
  by_cases hgt : TT < tq
  · obtain rfl : U = true := by rw [unhide HU]; unfold utB; rw [decide_eq_true hgt]; rfl
    have dg : decide (TT < tq) = true := decide_eq_true hgt
    clear hgt
    go_wp2_with fail
    go_ret
    exact ⟨rfl, unhide B3⟩
  have dg : decide (TT < tq) = false := decide_eq_false hgt
  by_cases heq : tq = TT
  · have de : (tq == TT) = true := by simpa using heq
    have dl : decide ((n : Int) ≤ iq) = U := by rw [unhide HU]; unfold utB; rw [decide_eq_false hgt, decide_eq_true heq]; rfl
    have HD := hide dl
    clear heq hgt dl
    go_wp2_with fail
    go_ret
    exact ⟨ret_bool (unhide HD), unhide B3⟩
  · have de : (tq == TT) = false := by simpa using heq
    obtain rfl : U = false := by rw [unhide HU]; unfold utB; rw [decide_eq_false hgt, decide_eq_false heq]; rfl
    clear heq hgt
    go_wp2_with fail
    go_ret
    exact ⟨rfl, unhide B3⟩
set_option maxHeartbeats 4000000 in
set_option maxRecDepth 100000 in
theorem supto (id nd tm vt ro cm el wt : Int) (up : Bool) (a : Option Addr) (cap n : Nat) (l : List (Int × ByteArray)) (HN : Hid (l.length = n)) (av : Option Addr) (cv nv : Nat) (lv : List Int) (HNv : Hid (lv.length = nv)) (ax : Option Addr) (cx nx : Nat) (lx : List Int) (HNx : Hid (lx.length = nx)) (ag : Option Addr) (cg ng : Nat) (lg : List Int) (HNg : Hid (lg.length = ng)) (hn : n ≤ 1048576) (hnv : nv ≤ 1048576) (hnx : nx ≤ 1048576) (hng : ng ≤ 1048576) (HSZ : Hid (∀ k (h : k < l.length), l[k].2.size ≤ 1048576)) (R : Bool) (HRR : Hid (R = nodeB id nd tm vt ro cm el wt up l lv lx lg)) (iq tq : Int) (TT : Int) (HT : Hid (TT = tAt l n)) (U : Bool) (c : Int) (HU : Hid (U = (R && utB (n : Int) TT iq tq) ∧ c = if R then 0 else 1)) (w : World) (hr : RowV w a (cE l)) (hrv : RowV w av (cI lv)) (hrx : RowV w ax (cI lx)) (hrg : RowV w ag (cI lg)) :
    Calls Try.prog 5 #[.agg #[.int .i64 id, .int .i64 nd, .int .i64 tm, .int .i64 vt, .int .i64 ro, .bool up, .slice a n cap, .int .i64 cm, .int .i64 el, .int .i64 wt, .slice av nv cv, .slice ax nx cx, .slice ag ng cg], .int .i64 iq, .int .i64 tq] w fun e w' => e = .returned (.tuple #[.bool U, .int .i64 c]) ∧ Below w.heap.size w w' := by
  have B0 := hide (Go.Joins.below_alloc1 w (.cells #[.int .i64 id, .int .i64 nd, .int .i64 tm, .int .i64 vt, .int .i64 ro, .bool up, .slice a n cap, .int .i64 cm, .int .i64 el, .int .i64 wt, .slice av nv cv, .slice ax nx cx, .slice ag ng cg] 31))
  have A0 := hide (BF.new w #[.int .i64 id, .int .i64 nd, .int .i64 tm, .int .i64 vt, .int .i64 ro, .bool up, .slice a n cap, .int .i64 cm, .int .i64 el, .int .i64 wt, .slice av nv cv, .slice ax nx cx, .slice ag ng cg] 31)
  have HR := hide hr
  have HRv := hide hrv
  have HRx := hide hrx
  have HRg := hide hrg
  clear hr hrv hrx hrg
  go_enter Try.func5, Try.ntmps5
  go_wp2_with fail
  refine (snodeok id nd tm vt ro cm el wt up a cap n l HN av cv nv lv HNv ax cx nx lx HNx ag cg ng lg HNg hn hnv hnx hng HSZ R HRR _ ((unhide HR).below (unhide B0)) ((unhide HRv).below (unhide B0)) ((unhide HRx).below (unhide B0)) ((unhide HRg).below (unhide B0))).mono ?_
  rintro e w1 ⟨rfl, hb1⟩
  have B1 := hide ((unhide B0).trans (hb1.mono (unhide B0).size))
  have A1 := hide ((unhide A0).below hb1)
  clear hb1 B0 A0
  have a1 := (unhide A1).S
  cases R with
  | false =>
    obtain ⟨rfl, rfl⟩ : U = false ∧ c = 1 := by simpa using unhide HU
    go_wp2_with fail
    go_ret2
    exact ⟨rfl, unhide B1⟩
  | true =>
    have hu : U = utB (n : Int) TT iq tq ∧ c = 0 := by simpa using unhide HU
    obtain ⟨hu1, rfl⟩ := hu
    have HU1 := hide hu1
    clear hu1 HU
    go_wp2_with fail
    refine (suptod id nd tm vt ro cm el wt up a cap n av cv nv ax cx nx ag cg ng l HN hn iq tq TT HT U HU1 _ ((unhide HR).below (unhide B1))).mono ?_
    rintro e w2 ⟨rfl, hb2⟩
    have B2 := hide ((unhide B1).trans (hb2.mono (unhide B1).size))
    clear hb2
    go_wp2_with fail
    go_ret2
    exact ⟨rfl, unhide B2⟩
end Go.Proofs.Ytejedkkpllfpeaa
