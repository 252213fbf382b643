/- NodeTick: what the program answers, whole. -/
import Derived.Test.YtjlajpnhcphngaaZTkA
import Derived.Test.YtjlajpnhcphngaaZCopN
import Derived.Test.YtjlajpnhcphngaaZG7
namespace Go.Proofs.Ytjlajpnhcphngaa
open Go.ChangeShapes Go.WideShapes Go.ChangeAt Go.RowKit
set_option linter.unusedVariables false
set_option maxHeartbeats 4000000 in
set_option maxRecDepth 100000 in
theorem ntick_bad (id nd tm vt ro cm el wt : Int) (up : Bool) (a : Option Addr) (cap n : Nat) (l : List (Int × ByteArray)) (HN : Hid (l.length = n)) (av : Option Addr) (cv nv : Nat) (lv : List Int) (HNv : Hid (lv.length = nv)) (ax : Option Addr) (cx nx : Nat) (lx : List Int) (HNx : Hid (lx.length = nx)) (ag : Option Addr) (cg ng : Nat) (lg : List Int) (HNg : Hid (lg.length = ng)) (hn : n ≤ 1048576) (hnv : nv ≤ 1048576) (hnx : nx ≤ 1048576) (hng : ng ≤ 1048576) (HSZ : Hid (∀ k (h : k < l.length), l[k].2.size ≤ 1048576)) (x : Int) (HB : Hid (false = nodeB id nd tm vt ro cm el wt up l lv lx lg)) (w : World) (hr : RowV w a (cE l)) (hrv : RowV w av (cI lv)) (hrx : RowV w ax (cI lx)) (hrg : RowV w ag (cI lg)) :
    Calls Try.prog 7 #[.agg #[.int .i64 id, .int .i64 nd, .int .i64 tm, .int .i64 vt, .int .i64 ro, .bool up, .slice a n cap, .int .i64 cm, .int .i64 el, .int .i64 wt, .slice av nv cv, .slice ax nx cx, .slice ag ng cg], .int .i64 x] w fun e w' => e = .returned (.tuple #[.agg #[.int .i64 0, .int .i64 0, .int .i64 0, .int .i64 0, .int .i64 0, .bool false, .slice none 0 0, .int .i64 0, .int .i64 0, .int .i64 0, .slice none 0 0, .slice none 0 0, .slice none 0 0], .slice none 0 0, .int .i64 1]) ∧ Below w.heap.size w w' := by
  have B0 := hide (Go.Joins.below_alloc2 w (.cells #[.int .i64 id, .int .i64 nd, .int .i64 tm, .int .i64 vt, .int .i64 ro, .bool up, .slice a n cap, .int .i64 cm, .int .i64 el, .int .i64 wt, .slice av nv cv, .slice ax nx cx, .slice ag ng cg] 29) (.cells #[.int .i64 0, .int .i64 0, .int .i64 0, .int .i64 0, .int .i64 0, .bool false, .slice none 0 0, .int .i64 0, .int .i64 0, .int .i64 0, .slice none 0 0, .slice none 0 0, .slice none 0 0] 29))
  have A0 := hide ((BF.new w #[.int .i64 id, .int .i64 nd, .int .i64 tm, .int .i64 vt, .int .i64 ro, .bool up, .slice a n cap, .int .i64 cm, .int .i64 el, .int .i64 wt, .slice av nv cv, .slice ax nx cx, .slice ag ng cg] 29).alloc (.cells #[.int .i64 0, .int .i64 0, .int .i64 0, .int .i64 0, .int .i64 0, .bool false, .slice none 0 0, .int .i64 0, .int .i64 0, .int .i64 0, .slice none 0 0, .slice none 0 0, .slice none 0 0] 29))
  have Z0 := hide (BF.new (w.alloc (.cells #[.int .i64 id, .int .i64 nd, .int .i64 tm, .int .i64 vt, .int .i64 ro, .bool up, .slice a n cap, .int .i64 cm, .int .i64 el, .int .i64 wt, .slice av nv cv, .slice ax nx cx, .slice ag ng cg] 29)) #[.int .i64 0, .int .i64 0, .int .i64 0, .int .i64 0, .int .i64 0, .bool false, .slice none 0 0, .int .i64 0, .int .i64 0, .int .i64 0, .slice none 0 0, .slice none 0 0, .slice none 0 0] 29)
  simp only [World.size_alloc] at Z0
  have HRe := hide hr
  have HRv := hide hrv
  have HRx := hide hrx
  have HRg := hide hrg
  clear hr hrv hrx hrg
  have ka := (unhide A0).S
  have kz := (unhide Z0).S
  have kzf := (unhide Z0).F
  go_enter Try.func7, Try.ntmps7
  go_wp2_with fail
  refine (inodeok id nd tm vt ro cm el wt up a cap n l HN av cv nv lv HNv ax cx nx lx HNx ag cg ng lg HNg hn hnv hnx hng HSZ _ HB _ ((unhide HRe).below (unhide B0)) ((unhide HRv).below (unhide B0)) ((unhide HRx).below (unhide B0)) ((unhide HRg).below (unhide B0))).mono ?_
  rintro e w1 ⟨rfl, hb⟩
  have B1 := hide ((unhide B0).trans (hb.mono (unhide B0).size))
  have A1 := hide ((unhide A0).below hb)
  have Z1 := hide ((unhide Z0).below hb)
  clear hb B0 A0 Z0 ka kz kzf
  have ka := (unhide A1).S
  have kz := (unhide Z1).S
  have kzf := (unhide Z1).F
  go_wp2_with fail
  refine bodyPost_ret (v := .tuple #[.agg #[.int .i64 0, .int .i64 0, .int .i64 0, .int .i64 0, .int .i64 0, .bool false, .slice none 0 0, .int .i64 0, .int .i64 0, .int .i64 0, .slice none 0 0, .slice none 0 0, .slice none 0 0], .slice none 0 0, .int .i64 1]) (by simp [results, Try.results7, go_sem, kz]) rfl ⟨rfl, ?_⟩
  iterate 13 refine Below.setCell ?_ (by exact Nat.le_succ _) _
  exact unhide B1
set_option maxHeartbeats 4000000 in
set_option maxRecDepth 100000 in
theorem ntick_range (id nd tm vt ro cm el wt : Int) (up : Bool) (a : Option Addr) (cap n : Nat) (l : List (Int × ByteArray)) (HN : Hid (l.length = n)) (av : Option Addr) (cv nv : Nat) (lv : List Int) (HNv : Hid (lv.length = nv)) (ax : Option Addr) (cx nx : Nat) (lx : List Int) (HNx : Hid (lx.length = nx)) (ag : Option Addr) (cg ng : Nat) (lg : List Int) (HNg : Hid (lg.length = ng)) (hn : n ≤ 1048576) (hnv : nv ≤ 1048576) (hnx : nx ≤ 1048576) (hng : ng ≤ 1048576) (HSZ : Hid (∀ k (h : k < l.length), l[k].2.size ≤ 1048576)) (x : Int) (HB : Hid (true = nodeB id nd tm vt ro cm el wt up l lv lx lg)) (HW : Hid (false = inB x 0 1000000)) (w : World) (hr : RowV w a (cE l)) (hrv : RowV w av (cI lv)) (hrx : RowV w ax (cI lx)) (hrg : RowV w ag (cI lg)) :
    Calls Try.prog 7 #[.agg #[.int .i64 id, .int .i64 nd, .int .i64 tm, .int .i64 vt, .int .i64 ro, .bool up, .slice a n cap, .int .i64 cm, .int .i64 el, .int .i64 wt, .slice av nv cv, .slice ax nx cx, .slice ag ng cg], .int .i64 x] w fun e w' => e = .returned (.tuple #[.agg #[.int .i64 0, .int .i64 0, .int .i64 0, .int .i64 0, .int .i64 0, .bool false, .slice none 0 0, .int .i64 0, .int .i64 0, .int .i64 0, .slice none 0 0, .slice none 0 0, .slice none 0 0], .slice none 0 0, .int .i64 4]) ∧ Below w.heap.size w w' := by
  have B0 := hide (Go.Joins.below_alloc2 w (.cells #[.int .i64 id, .int .i64 nd, .int .i64 tm, .int .i64 vt, .int .i64 ro, .bool up, .slice a n cap, .int .i64 cm, .int .i64 el, .int .i64 wt, .slice av nv cv, .slice ax nx cx, .slice ag ng cg] 29) (.cells #[.int .i64 0, .int .i64 0, .int .i64 0, .int .i64 0, .int .i64 0, .bool false, .slice none 0 0, .int .i64 0, .int .i64 0, .int .i64 0, .slice none 0 0, .slice none 0 0, .slice none 0 0] 29))
  have A0 := hide ((BF.new w #[.int .i64 id, .int .i64 nd, .int .i64 tm, .int .i64 vt, .int .i64 ro, .bool up, .slice a n cap, .int .i64 cm, .int .i64 el, .int .i64 wt, .slice av nv cv, .slice ax nx cx, .slice ag ng cg] 29).alloc (.cells #[.int .i64 0, .int .i64 0, .int .i64 0, .int .i64 0, .int .i64 0, .bool false, .slice none 0 0, .int .i64 0, .int .i64 0, .int .i64 0, .slice none 0 0, .slice none 0 0, .slice none 0 0] 29))
  have Z0 := hide (BF.new (w.alloc (.cells #[.int .i64 id, .int .i64 nd, .int .i64 tm, .int .i64 vt, .int .i64 ro, .bool up, .slice a n cap, .int .i64 cm, .int .i64 el, .int .i64 wt, .slice av nv cv, .slice ax nx cx, .slice ag ng cg] 29)) #[.int .i64 0, .int .i64 0, .int .i64 0, .int .i64 0, .int .i64 0, .bool false, .slice none 0 0, .int .i64 0, .int .i64 0, .int .i64 0, .slice none 0 0, .slice none 0 0, .slice none 0 0] 29)
  simp only [World.size_alloc] at Z0
  have HRe := hide hr
  have HRv := hide hrv
  have HRx := hide hrx
  have HRg := hide hrg
  clear hr hrv hrx hrg
  have ka := (unhide A0).S
  have kz := (unhide Z0).S
  have kzf := (unhide Z0).F
  go_enter Try.func7, Try.ntmps7
  go_wp2_with fail
  refine (inodeok id nd tm vt ro cm el wt up a cap n l HN av cv nv lv HNv ax cx nx lx HNx ag cg ng lg HNg hn hnv hnx hng HSZ _ HB _ ((unhide HRe).below (unhide B0)) ((unhide HRv).below (unhide B0)) ((unhide HRx).below (unhide B0)) ((unhide HRg).below (unhide B0))).mono ?_
  rintro e w1 ⟨rfl, hb⟩
  have B1 := hide ((unhide B0).trans (hb.mono (unhide B0).size))
  have A1 := hide ((unhide A0).below hb)
  have Z1 := hide ((unhide Z0).below hb)
  clear hb B0 A0 Z0 ka kz kzf
  have ka := (unhide A1).S
  have kz := (unhide Z1).S
  have kzf := (unhide Z1).F
  go_wp2_with fail
  refine (iwi x 0 1000000 _ HW _).mono ?_
  rintro e w1b ⟨rfl, hw⟩
  subst hw
  go_wp2_with fail
  refine bodyPost_ret (v := .tuple #[.agg #[.int .i64 0, .int .i64 0, .int .i64 0, .int .i64 0, .int .i64 0, .bool false, .slice none 0 0, .int .i64 0, .int .i64 0, .int .i64 0, .slice none 0 0, .slice none 0 0, .slice none 0 0], .slice none 0 0, .int .i64 4]) (by simp [results, Try.results7, go_sem, kz]) rfl ⟨rfl, ?_⟩
  iterate 13 refine Below.setCell ?_ (by exact Nat.le_succ _) _
  exact unhide B1
set_option maxHeartbeats 4000000 in
set_option maxRecDepth 100000 in
theorem ntick_down (id nd tm vt ro cm el wt : Int) (a : Option Addr) (cap n : Nat) (l : List (Int × ByteArray)) (HN : Hid (l.length = n)) (av : Option Addr) (cv nv : Nat) (lv : List Int) (HNv : Hid (lv.length = nv)) (ax : Option Addr) (cx nx : Nat) (lx : List Int) (HNx : Hid (lx.length = nx)) (ag : Option Addr) (cg ng : Nat) (lg : List Int) (HNg : Hid (lg.length = ng)) (hn : n ≤ 1048576) (hnv : nv ≤ 1048576) (hnx : nx ≤ 1048576) (hng : ng ≤ 1048576) (HSZ : Hid (∀ k (h : k < l.length), l[k].2.size ≤ 1048576)) (x : Int) (HB : Hid (true = nodeB id nd tm vt ro cm el wt false l lv lx lg)) (HW : Hid (true = inB x 0 1000000)) (w : World) (hr : RowV w a (cE l)) (hrv : RowV w av (cI lv)) (hrx : RowV w ax (cI lx)) (hrg : RowV w ag (cI lg)) :
    Calls Try.prog 7 #[.agg #[.int .i64 id, .int .i64 nd, .int .i64 tm, .int .i64 vt, .int .i64 ro, .bool false, .slice a n cap, .int .i64 cm, .int .i64 el, .int .i64 wt, .slice av nv cv, .slice ax nx cx, .slice ag ng cg], .int .i64 x] w fun e w' => ∃ eA eC vA vC xA xC gA gC loe hie lov hiv lox hix log hig, e = .returned (.tuple #[.agg #[.int .i64 id, .int .i64 nd, .int .i64 tm, .int .i64 vt, .int .i64 ro, .bool false, .slice eA n eC, .int .i64 cm, .int .i64 el, .int .i64 wt, .slice vA nv vC, .slice xA nx xC, .slice gA ng gC], .slice none 0 0, .int .i64 13]) ∧ HeldZ 2 w' loe hie 68 (.slice eA n eC) n (cE l) ∧ Held w' lov hiv 3 (.slice vA nv vC) nv (cI lv) ∧ Held w' lox hix 3 (.slice xA nx xC) nx (cI lx) ∧ Held w' log hig 3 (.slice gA ng gC) ng (cI lg) ∧ (w.heap.size ≤ loe ∧ hie ≤ lov ∧ hiv ≤ lox ∧ hix ≤ log) ∧ (loe ≤ hie ∧ lov ≤ hiv ∧ lox ≤ hix ∧ log ≤ hig) ∧ Below w.heap.size w w' := by
  have B0 := hide (Go.Joins.below_alloc2 w (.cells #[.int .i64 id, .int .i64 nd, .int .i64 tm, .int .i64 vt, .int .i64 ro, .bool false, .slice a n cap, .int .i64 cm, .int .i64 el, .int .i64 wt, .slice av nv cv, .slice ax nx cx, .slice ag ng cg] 29) (.cells #[.int .i64 0, .int .i64 0, .int .i64 0, .int .i64 0, .int .i64 0, .bool false, .slice none 0 0, .int .i64 0, .int .i64 0, .int .i64 0, .slice none 0 0, .slice none 0 0, .slice none 0 0] 29))
  have A0 := hide ((BF.new w #[.int .i64 id, .int .i64 nd, .int .i64 tm, .int .i64 vt, .int .i64 ro, .bool false, .slice a n cap, .int .i64 cm, .int .i64 el, .int .i64 wt, .slice av nv cv, .slice ax nx cx, .slice ag ng cg] 29).alloc (.cells #[.int .i64 0, .int .i64 0, .int .i64 0, .int .i64 0, .int .i64 0, .bool false, .slice none 0 0, .int .i64 0, .int .i64 0, .int .i64 0, .slice none 0 0, .slice none 0 0, .slice none 0 0] 29))
  have Z0 := hide (BF.new (w.alloc (.cells #[.int .i64 id, .int .i64 nd, .int .i64 tm, .int .i64 vt, .int .i64 ro, .bool false, .slice a n cap, .int .i64 cm, .int .i64 el, .int .i64 wt, .slice av nv cv, .slice ax nx cx, .slice ag ng cg] 29)) #[.int .i64 0, .int .i64 0, .int .i64 0, .int .i64 0, .int .i64 0, .bool false, .slice none 0 0, .int .i64 0, .int .i64 0, .int .i64 0, .slice none 0 0, .slice none 0 0, .slice none 0 0] 29)
  simp only [World.size_alloc] at Z0
  have HRe := hide hr
  have HRv := hide hrv
  have HRx := hide hrx
  have HRg := hide hrg
  clear hr hrv hrx hrg
  have ka := (unhide A0).S
  have kz := (unhide Z0).S
  have kzf := (unhide Z0).F
  go_enter Try.func7, Try.ntmps7
  go_wp2_with fail
  refine (inodeok id nd tm vt ro cm el wt false a cap n l HN av cv nv lv HNv ax cx nx lx HNx ag cg ng lg HNg hn hnv hnx hng HSZ _ HB _ ((unhide HRe).below (unhide B0)) ((unhide HRv).below (unhide B0)) ((unhide HRx).below (unhide B0)) ((unhide HRg).below (unhide B0))).mono ?_
  rintro e w1 ⟨rfl, hb⟩
  have B1 := hide ((unhide B0).trans (hb.mono (unhide B0).size))
  have A1 := hide ((unhide A0).below hb)
  have Z1 := hide ((unhide Z0).below hb)
  clear hb B0 A0 Z0 ka kz kzf
  have ka := (unhide A1).S
  have kz := (unhide Z1).S
  have kzf := (unhide Z1).F
  go_wp2_with fail
  refine (iwi x 0 1000000 _ HW _).mono ?_
  rintro e w1b ⟨rfl, hw⟩
  subst hw
  go_wp2_with fail
  refine (icopN id nd tm vt ro cm el wt false a cap n l HN av cv nv lv HNv ax cx nx lx HNx ag cg ng lg HNg hn hnv hnx hng _ ((unhide HRe).below (unhide B1)) ((unhide HRv).below (unhide B1)) ((unhide HRx).below (unhide B1)) ((unhide HRg).below (unhide B1))).mono ?_
  rintro e w2 ⟨eA, eC, vA, vC, xA, xC, gA, gC, loe, hie, lov, hiv, lox, hix, log, hig, rfl, he, hv, hx, hg, ⟨q0, q1, q2, q3⟩, ⟨r0, r1, r2, r3⟩, hb⟩
  have B2 := hide ((unhide B1).trans (hb.mono (unhide B1).size))
  have A2 := hide ((unhide A1).below hb)
  have Z2 := hide ((unhide Z1).below hb)
  have zl := (unhide Z1).lt
  have ho : Hid (w.heap.size + 1 < loe ∧ w.heap.size + 1 < lov ∧ w.heap.size + 1 < lox ∧ w.heap.size + 1 < log) := by show _ ∧ _; omega
  have HQ : Hid ((w.heap.size ≤ loe ∧ hie ≤ lov ∧ hiv ≤ lox ∧ hix ≤ log) ∧ (loe ≤ hie ∧ lov ≤ hiv ∧ lox ≤ hix ∧ log ≤ hig)) := by show _ ∧ _; omega
  have E1 := hide he
  have V1 := hide hv
  have X1 := hide hx
  have G1 := hide hg
  clear zl q0 q1 q2 q3 r0 r1 r2 r3 he hv hx hg
  clear hb B1 A1 Z1 ka kz kzf
  have ka := (unhide A2).S
  have kz := (unhide Z2).S
  have kzf := (unhide Z2).F
  go_wp2_with fail
  refine bodyPost_ret (v := .tuple #[.agg #[.int .i64 id, .int .i64 nd, .int .i64 tm, .int .i64 vt, .int .i64 ro, .bool false, .slice eA n eC, .int .i64 cm, .int .i64 el, .int .i64 wt, .slice vA nv vC, .slice xA nx xC, .slice gA ng gC], .slice none 0 0, .int .i64 13]) (by simp [results, Try.results7, go_sem, kz]) rfl ⟨eA, eC, vA, vC, xA, xC, gA, gC, loe, hie, lov, hiv, lox, hix, log, hig, rfl, ?_, ?_, ?_, ?_, (unhide HQ).1, (unhide HQ).2, ?_⟩
  · iterate 13 refine HeldZ.setC ?_ (by show w.heap.size + 1 < loe; exact (unhide ho).1) _
    exact unhide E1
  · iterate 13 refine Held.setC ?_ (by show w.heap.size + 1 < lov; exact (unhide ho).2.1) _
    exact unhide V1
  · iterate 13 refine Held.setC ?_ (by show w.heap.size + 1 < lox; exact (unhide ho).2.2.1) _
    exact unhide X1
  · iterate 13 refine Held.setC ?_ (by show w.heap.size + 1 < log; exact (unhide ho).2.2.2) _
    exact unhide G1
  · iterate 13 refine Below.setCell ?_ (by exact Nat.le_succ _) _
    exact unhide B2
set_option maxHeartbeats 4000000 in
set_option maxRecDepth 100000 in
theorem ntick_ok (id nd tm vt ro cm el wt : Int) (a : Option Addr) (cap n : Nat) (l : List (Int × ByteArray)) (HN : Hid (l.length = n)) (av : Option Addr) (cv nv : Nat) (lv : List Int) (HNv : Hid (lv.length = nv)) (ax : Option Addr) (cx nx : Nat) (lx : List Int) (HNx : Hid (lx.length = nx)) (ag : Option Addr) (cg ng : Nat) (lg : List Int) (HNg : Hid (lg.length = ng)) (hn : n ≤ 1048576) (hnv : nv ≤ 1048576) (hnx : nx ≤ 1048576) (hng : ng ≤ 1048576) (HSZ : Hid (∀ k (h : k < l.length), l[k].2.size ≤ 1048576)) (dr : Nat) (HB : Hid (true = nodeB id nd tm vt ro cm el wt true l lv lx lg)) (HW : Hid (true = inB (dr : Int) 0 1000000)) (hdr : dr ≤ 1000000) (w : World) (hr : RowV w a (cE l)) (hrv : RowV w av (cI lv)) (hrx : RowV w ax (cI lx)) (hrg : RowV w ag (cI lg)) :
    Calls Try.prog 7 #[.agg #[.int .i64 id, .int .i64 nd, .int .i64 tm, .int .i64 vt, .int .i64 ro, .bool true, .slice a n cap, .int .i64 cm, .int .i64 el, .int .i64 wt, .slice av nv cv, .slice ax nx cx, .slice ag ng cg], .int .i64 (dr : Int)] w fun e w' => PAns w w' e (tkP ⟨id, nd, tm, vt, ro, true, l, cm, el, wt, lv, lx, lg⟩ dr).1 (tkP ⟨id, nd, tm, vt, ro, true, l, cm, el, wt, lv, lx, lg⟩ dr).2 0 ∧ Below w.heap.size w w' := by
  obtain ⟨N', hN9⟩ : ∃ N', N' = (tkP ⟨id, nd, tm, vt, ro, true, l, cm, el, wt, lv, lx, lg⟩ dr).1 := ⟨_, rfl⟩
  obtain ⟨M, hM9⟩ : ∃ M, M = (tkP ⟨id, nd, tm, vt, ro, true, l, cm, el, wt, lv, lx, lg⟩ dr).2 := ⟨_, rfl⟩
  rw [← hN9, ← hM9]
  have HN9 := hide hN9
  have HM9 := hide hM9
  clear hN9 hM9
  have B0 := hide (Go.Joins.below_alloc2 w (.cells #[.int .i64 id, .int .i64 nd, .int .i64 tm, .int .i64 vt, .int .i64 ro, .bool true, .slice a n cap, .int .i64 cm, .int .i64 el, .int .i64 wt, .slice av nv cv, .slice ax nx cx, .slice ag ng cg] 29) (.cells #[.int .i64 0, .int .i64 0, .int .i64 0, .int .i64 0, .int .i64 0, .bool false, .slice none 0 0, .int .i64 0, .int .i64 0, .int .i64 0, .slice none 0 0, .slice none 0 0, .slice none 0 0] 29))
  have A0 := hide ((BF.new w #[.int .i64 id, .int .i64 nd, .int .i64 tm, .int .i64 vt, .int .i64 ro, .bool true, .slice a n cap, .int .i64 cm, .int .i64 el, .int .i64 wt, .slice av nv cv, .slice ax nx cx, .slice ag ng cg] 29).alloc (.cells #[.int .i64 0, .int .i64 0, .int .i64 0, .int .i64 0, .int .i64 0, .bool false, .slice none 0 0, .int .i64 0, .int .i64 0, .int .i64 0, .slice none 0 0, .slice none 0 0, .slice none 0 0] 29))
  have Z0 := hide (BF.new (w.alloc (.cells #[.int .i64 id, .int .i64 nd, .int .i64 tm, .int .i64 vt, .int .i64 ro, .bool true, .slice a n cap, .int .i64 cm, .int .i64 el, .int .i64 wt, .slice av nv cv, .slice ax nx cx, .slice ag ng cg] 29)) #[.int .i64 0, .int .i64 0, .int .i64 0, .int .i64 0, .int .i64 0, .bool false, .slice none 0 0, .int .i64 0, .int .i64 0, .int .i64 0, .slice none 0 0, .slice none 0 0, .slice none 0 0] 29)
  simp only [World.size_alloc] at Z0
  have HRe := hide hr
  have HRv := hide hrv
  have HRx := hide hrx
  have HRg := hide hrg
  clear hr hrv hrx hrg
  have ka := (unhide A0).S
  have kz := (unhide Z0).S
  have kzf := (unhide Z0).F
  go_enter Try.func7, Try.ntmps7
  go_wp2_with fail
  refine (inodeok id nd tm vt ro cm el wt true a cap n l HN av cv nv lv HNv ax cx nx lx HNx ag cg ng lg HNg hn hnv hnx hng HSZ _ HB _ ((unhide HRe).below (unhide B0)) ((unhide HRv).below (unhide B0)) ((unhide HRx).below (unhide B0)) ((unhide HRg).below (unhide B0))).mono ?_
  rintro e w1 ⟨rfl, hb⟩
  have B1 := hide ((unhide B0).trans (hb.mono (unhide B0).size))
  have A1 := hide ((unhide A0).below hb)
  have Z1 := hide ((unhide Z0).below hb)
  clear hb B0 A0 Z0 ka kz kzf
  have ka := (unhide A1).S
  have kz := (unhide Z1).S
  have kzf := (unhide Z1).F
  go_wp2_with fail
  refine (iwi (dr : Int) 0 1000000 _ HW _).mono ?_
  rintro e w1b ⟨rfl, hw⟩
  subst hw
  go_wp2_with fail
  refine (icopN id nd tm vt ro cm el wt true a cap n l HN av cv nv lv HNv ax cx nx lx HNx ag cg ng lg HNg hn hnv hnx hng _ ((unhide HRe).below (unhide B1)) ((unhide HRv).below (unhide B1)) ((unhide HRx).below (unhide B1)) ((unhide HRg).below (unhide B1))).mono ?_
  rintro e w2 ⟨eA, eC, vA, vC, xA, xC, gA, gC, loe, hie, lov, hiv, lox, hix, log, hig, rfl, he, hv, hx, hg, ⟨q0, q1, q2, q3⟩, ⟨r0, r1, r2, r3⟩, hb⟩
  have B2 := hide ((unhide B1).trans (hb.mono (unhide B1).size))
  have A2 := hide ((unhide A1).below hb)
  have Z2 := hide ((unhide Z1).below hb)
  have zl := (unhide Z1).lt
  have ho : Hid (w.heap.size + 1 < loe ∧ w.heap.size + 1 < lov ∧ w.heap.size + 1 < lox ∧ w.heap.size + 1 < log) := by show _ ∧ _; omega
  have HQ : Hid ((w.heap.size ≤ loe ∧ hie ≤ lov ∧ hiv ≤ lox ∧ hix ≤ log) ∧ (loe ≤ hie ∧ lov ≤ hiv ∧ lox ≤ hix ∧ log ≤ hig)) := by show _ ∧ _; omega
  have E1 := hide he
  have V1 := hide hv
  have X1 := hide hx
  have G1 := hide hg
  clear zl q0 q1 q2 q3 r0 r1 r2 r3 he hv hx hg
  clear hb B1 A1 Z1 ka kz kzf
  have ka := (unhide A2).S
  have kz := (unhide Z2).S
  have kzf := (unhide Z2).F
  obtain ⟨P, hP⟩ : ∃ P, P = w2.heap.size := ⟨_, rfl⟩
  obtain ⟨w4, hw4⟩ : ∃ w4, w4 = w2.alloc (.cells #[.int .i64 id, .int .i64 nd, .int .i64 tm, .int .i64 vt, .int .i64 ro, .bool true, .slice eA n eC, .int .i64 cm, .int .i64 el, .int .i64 wt, .slice vA nv vC, .slice xA nx xC, .slice gA ng gC] 29) := ⟨_, rfl⟩
  have hb4 : Below w2.heap.size w2 w4 := by rw [hw4]; exact Go.Joins.below_alloc1 w2 _
  have P4 : Hid (BF P #[.int .i64 id, .int .i64 nd, .int .i64 tm, .int .i64 vt, .int .i64 ro, .bool true, .slice eA n eC, .int .i64 cm, .int .i64 el, .int .i64 wt, .slice vA nv vC, .slice xA nx xC, .slice gA ng gC] w4) := by rw [hw4, hP]; exact BF.new w2 #[.int .i64 id, .int .i64 nd, .int .i64 tm, .int .i64 vt, .int .i64 ro, .bool true, .slice eA n eC, .int .i64 cm, .int .i64 el, .int .i64 wt, .slice vA nv vC, .slice xA nx xC, .slice gA ng gC] 29
  have lop := unhide ho
  have e4 := own_low ((unhide E1).below hb4 (unhide E1).le).own (by omega : w.heap.size + 2 ≤ loe)
  have v4 := own_low ((unhide V1).below hb4 (unhide V1).le).1 (by omega : w.heap.size + 2 ≤ lov)
  have x4 := own_low ((unhide X1).below hb4 (unhide X1).le).1 (by omega : w.heap.size + 2 ≤ lox)
  have g4 := own_low ((unhide G1).below hb4 (unhide G1).le).1 (by omega : w.heap.size + 2 ≤ log)
  have Z4 := hide ((unhide Z2).below hb4)
  have B4 := hide ((unhide B2).trans (hb4.mono (unhide B2).size))
  have be := (unhide E1).blk
  have bv := (unhide V1).blk
  have bx := (unhide X1).blk
  have bg := (unhide G1).blk
  have le1 := (unhide E1).le
  have le2 := (unhide V1).le
  have le3 := (unhide X1).le
  have le4 := (unhide G1).le
  have hq := unhide HQ
  have zP : w.heap.size + 1 < P := by rw [hP]; exact (unhide Z2).lt
  have T : Hid (Calls Try.prog 25 #[.pointer (some ⟨P, 0, none⟩), .int .i64 (dr : Int)] w4 fun e w' => PtA w4 w' P (w.heap.size + 2) e N' M) := by
    have hn1 := unhide HN
    have hn2 := unhide HNv
    have hn3 := unhide HNx
    have hn4 := unhide HNg
    subst hn1 hn2 hn3 hn4
    show Calls _ _ _ _ _
    rw [unhide HN9, unhide HM9]
    exact itickA P (w.heap.size + 2) ⟨id, nd, tm, vt, ro, true, l, cm, el, wt, lv, lx, lg⟩ (unhide HB).symm rfl dr hdr eA eC vA vC xA xC gA gC w4 (unhide P4) (by omega) e4 v4 x4 g4 (fun j hj => ⟨fun e => by have := bv j hj; have := bx j e; omega, fun e => by have := bv j hj; have := bg j e; omega⟩) (fun j hj e => by have := bx j hj; have := bg j e; omega) (fun e => by have := be P e; omega) (fun e => by have := bv P e; omega) (fun e => by have := bx P e; omega) (fun e => by have := bg P e; omega)
  have HW4 := hide hw4
  have HPP := hide hP
  have ZP := hide zP
  clear e4 v4 x4 g4 be bv bx bg le1 le2 le3 le4 hq zP lop hb4 hP hw4 P4 E1 V1 X1 G1 ho HQ
  go_upto_region 8 with fail
  rw [← unhide HPP, ← unhide HW4]
  clear ka kz kzf HW4 HPP A2 Z2 B2
  go_wp2_with fail
  refine (unhide T).mono ?_
  clear T
  rintro e w5 ⟨eB, eD, vB, vD, xB, xD, gB, gD, vm, L, lom, rfl, hP5, he, hv, hx, hg, d1, d2, hl, ⟨hPl, hll⟩, hL, hM, hb5⟩
  obtain ⟨am, cm9, hvm, -⟩ := ownZ_rowV hM.row
  obtain ⟨nL, hnL⟩ : ∃ q, L.length = q := ⟨_, rfl⟩
  rw [hnL] at hvm
  subst hvm
  have Z5 : Hid (BF (w.heap.size + 1) #[.int .i64 0, .int .i64 0, .int .i64 0, .int .i64 0, .int .i64 0, .bool false, .slice none 0 0, .int .i64 0, .int .i64 0, .int .i64 0, .slice none 0 0, .slice none 0 0, .slice none 0 0] w5) := (unhide Z4).keep hb5.size (hb5.block _ (by omega))
  have B5 := hide ((unhide B4).trans (hb5.mono (by omega)))
  obtain ⟨wz, hvz, hFZ, hfz, hbz⟩ := put13 w5 (unhide Z5) (.int .i64 N'.id) (.int .i64 N'.nd) (.int .i64 N'.tm) (.int .i64 N'.vt) (.int .i64 N'.ro) (.bool N'.up) (.slice eB N'.l.length eD) (.int .i64 N'.cm) (.int .i64 N'.el) (.int .i64 N'.wt) (.slice vB N'.lv.length vD) (.slice xB N'.lx.length xD) (.slice gB N'.lg.length gD)
  have lz : w5.heap.size ≤ wz.heap.size := hbz.size
  have FIN : Hid (PAns w wz (.returned (.tuple #[.agg #[.int .i64 N'.id, .int .i64 N'.nd, .int .i64 N'.tm, .int .i64 N'.vt, .int .i64 N'.ro, .bool N'.up, .slice eB N'.l.length eD, .int .i64 N'.cm, .int .i64 N'.el, .int .i64 N'.wt, .slice vB N'.lv.length vD, .slice xB N'.lx.length xD, .slice gB N'.lg.length gD], .slice am nL cm9, .int .i64 0])) N' M 0 ∧ Below w.heap.size w wz) := by
    have hj5 : ∀ j, ((Value.slice eB N'.l.length eD).ownBlock = some j ∨ (Value.slice vB N'.lv.length vD).ownBlock = some j ∨ (Value.slice xB N'.lx.length xD).ownBlock = some j ∨ (Value.slice gB N'.lg.length gD).ownBlock = some j) → j < w5.heap.size := fun j hj => by
      rcases hj with h | h | h | h
      · exact (he.lt j h).2
      · exact (hv.lt j h).2
      · exact (hx.lt j h).2
      · exact (hg.lt j h).2
    obtain ⟨l0, h0, l1, h1, l2, h2, l3, h3, hh, ha⟩ := apart_of (lom := min lom w5.heap.size) (own_farJ he hfz (fun e => by have := (he.lt _ e).1; omega)) (own_farJ hv hfz (fun e => by have := (hv.lt _ e).1; omega)) (own_farJ hx hfz (fun e => by have := (hx.lt _ e).1; omega)) (own_farJ hg hfz (fun e => by have := (hg.lt _ e).1; omega)) d1 d2 (fun j hj => by have h1 := hl j hj; have h2 := hj5 j hj; omega) (by have := hP5.lt; have := unhide ZP; omega) (by omega)
    refine ⟨⟨eB, eD, vB, vD, xB, xD, gB, gD, l0, h0, l1, h1, l2, h2, l3, h3, .slice am nL cm9, L, min lom w5.heap.size, rfl, hh, ?_, ⟨by have := hP5.lt; have := unhide ZP; omega, by omega⟩, hL, ((hM.low (Nat.min_le_left _ w5.heap.size)).far hfz (by have := hP5.lt; have := unhide ZP; omega))⟩, (unhide B5).trans (hbz.mono (Nat.le_succ _))⟩
    unfold Apart at ha ⊢; omega
  have HVZ := hide hvz
  have kf := hFZ.S
  have HFZ := hide kf
  have kp := hP5.S
  clear he hv hx hg d1 d2 hl hM hb5 hP5 hPl hll hL hfz hbz hFZ kf hvz lz Z4 B4 B5 hnL
  have kz := (unhide Z5).S
  have kzf := (unhide Z5).F
  go_wp2_with fail
  rw [← unhide HVZ]
  have kf := unhide HFZ
  exact bodyPost_ret (v := .tuple #[.agg #[.int .i64 N'.id, .int .i64 N'.nd, .int .i64 N'.tm, .int .i64 N'.vt, .int .i64 N'.ro, .bool N'.up, .slice eB N'.l.length eD, .int .i64 N'.cm, .int .i64 N'.el, .int .i64 N'.wt, .slice vB N'.lv.length vD, .slice xB N'.lx.length xD, .slice gB N'.lg.length gD], .slice am nL cm9, .int .i64 0]) (by simp [results, Try.results7, go_sem, kf]) rfl (unhide FIN)
set_option maxHeartbeats 4000000 in
set_option maxRecDepth 100000 in
theorem intick (id nd tm vt ro cm el wt : Int) (up : Bool) (a : Option Addr) (cap n : Nat) (l : List (Int × ByteArray)) (HN : Hid (l.length = n)) (av : Option Addr) (cv nv : Nat) (lv : List Int) (HNv : Hid (lv.length = nv)) (ax : Option Addr) (cx nx : Nat) (lx : List Int) (HNx : Hid (lx.length = nx)) (ag : Option Addr) (cg ng : Nat) (lg : List Int) (HNg : Hid (lg.length = ng)) (hn : n ≤ 1048576) (hnv : nv ≤ 1048576) (hnx : nx ≤ 1048576) (hng : ng ≤ 1048576) (HSZ : Hid (∀ k (h : k < l.length), l[k].2.size ≤ 1048576)) (x : Int) (N' : Nf) (M : List Mg) (cc : Int) (HIS : Hid (tkA ⟨id, nd, tm, vt, ro, up, l, cm, el, wt, lv, lx, lg⟩ x = (N', M, cc))) (w : World) (hr : RowV w a (cE l)) (hrv : RowV w av (cI lv)) (hrx : RowV w ax (cI lx)) (hrg : RowV w ag (cI lg)) :
    Calls Try.prog 7 #[.agg #[.int .i64 id, .int .i64 nd, .int .i64 tm, .int .i64 vt, .int .i64 ro, .bool up, .slice a n cap, .int .i64 cm, .int .i64 el, .int .i64 wt, .slice av nv cv, .slice ax nx cx, .slice ag ng cg], .int .i64 x] w fun e w' => PAns w w' e N' M cc ∧ Below w.heap.size w w' := by
  have his := unhide HIS
  unfold tkA at his
  rcases bdic (nodeB id nd tm vt ro cm el wt up l lv lx lg) with hB | hB
  · rw [if_pos (show nfB ⟨id, nd, tm, vt, ro, up, l, cm, el, wt, lv, lx, lg⟩ = false from hB)] at his
    injection his with e1 his
    injection his with e2 e3
    subst e1 e2 e3
    refine (ntick_bad id nd tm vt ro cm el wt up a cap n l HN av cv nv lv HNv ax cx nx lx HNx ag cg ng lg HNg hn hnv hnx hng HSZ x (hide hB.symm) w hr hrv hrx hrg).mono ?_
    rintro e w' ⟨rfl, hb⟩
    exact ⟨pans_zero 1 hb.size, hb⟩
  rw [if_neg (show ¬ nfB ⟨id, nd, tm, vt, ro, up, l, cm, el, wt, lv, lx, lg⟩ = false from by intro h; rw [show nfB ⟨id, nd, tm, vt, ro, up, l, cm, el, wt, lv, lx, lg⟩ = true from hB] at h; cases h)] at his
  rcases bdic (inB x 0 1000000) with hW | hW
  · rw [if_pos hW] at his
    injection his with e1 his
    injection his with e2 e3
    subst e1 e2 e3
    refine (ntick_range id nd tm vt ro cm el wt up a cap n l HN av cv nv lv HNv ax cx nx lx HNx ag cg ng lg HNg hn hnv hnx hng HSZ x (hide hB.symm) (hide hW.symm) w hr hrv hrx hrg).mono ?_
    rintro e w' ⟨rfl, hb⟩
    exact ⟨pans_zero 4 hb.size, hb⟩
  rw [if_neg (by rw [hW]; simp)] at his
  rcases bdic up with hU | hU
  · subst hU
    rw [if_pos rfl] at his
    injection his with e1 his
    injection his with e2 e3
    subst e1 e2 e3
    refine (ntick_down id nd tm vt ro cm el wt a cap n l HN av cv nv lv HNv ax cx nx lx HNx ag cg ng lg HNg hn hnv hnx hng HSZ x (hide hB.symm) (hide hW.symm) w hr hrv hrx hrg).mono ?_
    rintro e w' ⟨eA, eC, vA, vC, xA, xC, gA, gC, loe, hie, lov, hiv, lox, hix, log, hig, rfl, he, hv, hx, hg, hq1, hq2, hb⟩
    rw [← unhide HN] at he ⊢
    rw [← unhide HNv] at hv ⊢
    rw [← unhide HNx] at hx ⊢
    rw [← unhide HNg] at hg ⊢
    exact ⟨⟨eA, eC, vA, vC, xA, xC, gA, gC, loe, hie, lov, hiv, lox, hix, log, hig, .slice none 0 0, [], w'.heap.size, rfl, ⟨he, hv, hx, hg⟩, by have := he.le; have := hv.le; have := hx.le; have := hg.le; unfold Apart; omega, ⟨hb.size, Nat.le_refl _⟩, rfl, MOwn.nil _ _⟩, hb⟩
  subst hU
  rw [if_neg (by simp)] at his
  injection his with e1 his
  injection his with e2 e3
  subst e1 e2 e3
  have hx0 : 0 ≤ x ∧ x ≤ 1000000 := by have := hW; unfold inB at this; simpa using this
  obtain ⟨dr, hdr⟩ : ∃ dr : Nat, x = (dr : Int) := ⟨x.toNat, by omega⟩
  subst hdr
  exact ntick_ok id nd tm vt ro cm el wt a cap n l HN av cv nv lv HNv ax cx nx lx HNx ag cg ng lg HNg hn hnv hnx hng HSZ dr (hide hB.symm) (hide hW.symm) (by omega) w hr hrv hrx hrg
end Go.Proofs.Ytjlajpnhcphngaa
