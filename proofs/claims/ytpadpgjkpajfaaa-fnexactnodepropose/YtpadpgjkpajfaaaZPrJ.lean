/- NodePropose: what the program answers, whole. -/
import Derived.Test.YtpadpgjkpajfaaaZG24
import Derived.Test.YtpadpgjkpajfaaaZPrI
namespace Go.Proofs.Ytpadpgjkpajfaaa
open Go.ChangeShapes Go.WideShapes Go.ChangeAt Go.RowKit
set_option linter.unusedVariables false
set_option maxHeartbeats 4000000 in
set_option maxRecDepth 100000 in
theorem iprop_long (id nd tm vt cm el wt : Int) (ro : Int) (up : Bool) (a : Option Addr) (cap n : Nat) (l : List (Int × ByteArray)) (HN : Hid (l.length = n)) (av : Option Addr) (cv nv : Nat) (lv : List Int) (HNv : Hid (lv.length = nv)) (ax : Option Addr) (cx nx : Nat) (lx : List Int) (HNx : Hid (lx.length = nx)) (ag : Option Addr) (cg ng : Nat) (lg : List Int) (HNg : Hid (lg.length = ng)) (hn : n ≤ 1048576) (hnv : nv ≤ 1048576) (hnx : nx ≤ 1048576) (hng : ng ≤ 1048576) (HSZ : Hid (∀ k (h : k < l.length), l[k].2.size ≤ 1048576)) (d : ByteArray) (sz : Nat) (hsz : sz = d.size) (dl : (65536 : Int) < (sz : Int)) (w : World) (hr : RowV w a (cE l)) (hrv : RowV w av (cI lv)) (hrx : RowV w ax (cI lx)) (hrg : RowV w ag (cI lg)) :
    Calls Try.prog 7 #[.agg #[.int .i64 id, .int .i64 nd, .int .i64 tm, .int .i64 vt, .int .i64 ro, .bool up, .slice a n cap, .int .i64 cm, .int .i64 el, .int .i64 wt, .slice av nv cv, .slice ax nx cx, .slice ag ng cg], .string d] w fun e w' => e = .returned (.tuple #[.agg #[.int .i64 0, .int .i64 0, .int .i64 0, .int .i64 0, .int .i64 0, .bool false, .slice none 0 0, .int .i64 0, .int .i64 0, .int .i64 0, .slice none 0 0, .slice none 0 0, .slice none 0 0], .slice none 0 0, .int .i64 2]) ∧ Below w.heap.size w w' := by
  have B0 := hide (Go.Joins.below_alloc2 w (.cells #[.int .i64 id, .int .i64 nd, .int .i64 tm, .int .i64 vt, .int .i64 ro, .bool up, .slice a n cap, .int .i64 cm, .int .i64 el, .int .i64 wt, .slice av nv cv, .slice ax nx cx, .slice ag ng cg] 29) (.cells #[.int .i64 0, .int .i64 0, .int .i64 0, .int .i64 0, .int .i64 0, .bool false, .slice none 0 0, .int .i64 0, .int .i64 0, .int .i64 0, .slice none 0 0, .slice none 0 0, .slice none 0 0] 29))
  have A0 := hide ((BF.new w #[.int .i64 id, .int .i64 nd, .int .i64 tm, .int .i64 vt, .int .i64 ro, .bool up, .slice a n cap, .int .i64 cm, .int .i64 el, .int .i64 wt, .slice av nv cv, .slice ax nx cx, .slice ag ng cg] 29).alloc (.cells #[.int .i64 0, .int .i64 0, .int .i64 0, .int .i64 0, .int .i64 0, .bool false, .slice none 0 0, .int .i64 0, .int .i64 0, .int .i64 0, .slice none 0 0, .slice none 0 0, .slice none 0 0] 29))
  have Z0 := hide (BF.new (w.alloc (.cells #[.int .i64 id, .int .i64 nd, .int .i64 tm, .int .i64 vt, .int .i64 ro, .bool up, .slice a n cap, .int .i64 cm, .int .i64 el, .int .i64 wt, .slice av nv cv, .slice ax nx cx, .slice ag ng cg] 29)) #[.int .i64 0, .int .i64 0, .int .i64 0, .int .i64 0, .int .i64 0, .bool false, .slice none 0 0, .int .i64 0, .int .i64 0, .int .i64 0, .slice none 0 0, .slice none 0 0, .slice none 0 0] 29)
  simp only [World.size_alloc] at Z0
  have HRe := hide hr
  have HRv := hide hrv
  have HRx := hide hrx
  have HRg := hide hrg
  have la : (d.size : Int) = (sz : Int) := by rw [hsz]
  clear hr hrv hrx hrg hsz
  have ka := (unhide A0).S
  have kz := (unhide Z0).S
  have kzf := (unhide Z0).F
  go_enter Try.func7, Try.ntmps7
  go_wp2_with fail
  refine bodyPost_ret (v := .tuple #[.agg #[.int .i64 0, .int .i64 0, .int .i64 0, .int .i64 0, .int .i64 0, .bool false, .slice none 0 0, .int .i64 0, .int .i64 0, .int .i64 0, .slice none 0 0, .slice none 0 0, .slice none 0 0], .slice none 0 0, .int .i64 2]) (by simp [results, Try.results7, go_sem, kz]) rfl ⟨rfl, ?_⟩
  exact unhide B0
set_option maxHeartbeats 4000000 in
set_option maxRecDepth 100000 in
theorem iprop_bad (id nd tm vt cm el wt : Int) (ro : Int) (up : Bool) (a : Option Addr) (cap n : Nat) (l : List (Int × ByteArray)) (HN : Hid (l.length = n)) (av : Option Addr) (cv nv : Nat) (lv : List Int) (HNv : Hid (lv.length = nv)) (ax : Option Addr) (cx nx : Nat) (lx : List Int) (HNx : Hid (lx.length = nx)) (ag : Option Addr) (cg ng : Nat) (lg : List Int) (HNg : Hid (lg.length = ng)) (hn : n ≤ 1048576) (hnv : nv ≤ 1048576) (hnx : nx ≤ 1048576) (hng : ng ≤ 1048576) (HSZ : Hid (∀ k (h : k < l.length), l[k].2.size ≤ 1048576)) (d : ByteArray) (sz : Nat) (hsz : sz = d.size) (dl : ¬ (65536 : Int) < (sz : Int)) (HB : Hid (false = nodeB id nd tm vt ro cm el wt up l lv lx lg)) (w : World) (hr : RowV w a (cE l)) (hrv : RowV w av (cI lv)) (hrx : RowV w ax (cI lx)) (hrg : RowV w ag (cI lg)) :
    Calls Try.prog 7 #[.agg #[.int .i64 id, .int .i64 nd, .int .i64 tm, .int .i64 vt, .int .i64 ro, .bool up, .slice a n cap, .int .i64 cm, .int .i64 el, .int .i64 wt, .slice av nv cv, .slice ax nx cx, .slice ag ng cg], .string d] w fun e w' => e = .returned (.tuple #[.agg #[.int .i64 0, .int .i64 0, .int .i64 0, .int .i64 0, .int .i64 0, .bool false, .slice none 0 0, .int .i64 0, .int .i64 0, .int .i64 0, .slice none 0 0, .slice none 0 0, .slice none 0 0], .slice none 0 0, .int .i64 1]) ∧ Below w.heap.size w w' := by
  have B0 := hide (Go.Joins.below_alloc2 w (.cells #[.int .i64 id, .int .i64 nd, .int .i64 tm, .int .i64 vt, .int .i64 ro, .bool up, .slice a n cap, .int .i64 cm, .int .i64 el, .int .i64 wt, .slice av nv cv, .slice ax nx cx, .slice ag ng cg] 29) (.cells #[.int .i64 0, .int .i64 0, .int .i64 0, .int .i64 0, .int .i64 0, .bool false, .slice none 0 0, .int .i64 0, .int .i64 0, .int .i64 0, .slice none 0 0, .slice none 0 0, .slice none 0 0] 29))
  have A0 := hide ((BF.new w #[.int .i64 id, .int .i64 nd, .int .i64 tm, .int .i64 vt, .int .i64 ro, .bool up, .slice a n cap, .int .i64 cm, .int .i64 el, .int .i64 wt, .slice av nv cv, .slice ax nx cx, .slice ag ng cg] 29).alloc (.cells #[.int .i64 0, .int .i64 0, .int .i64 0, .int .i64 0, .int .i64 0, .bool false, .slice none 0 0, .int .i64 0, .int .i64 0, .int .i64 0, .slice none 0 0, .slice none 0 0, .slice none 0 0] 29))
  have Z0 := hide (BF.new (w.alloc (.cells #[.int .i64 id, .int .i64 nd, .int .i64 tm, .int .i64 vt, .int .i64 ro, .bool up, .slice a n cap, .int .i64 cm, .int .i64 el, .int .i64 wt, .slice av nv cv, .slice ax nx cx, .slice ag ng cg] 29)) #[.int .i64 0, .int .i64 0, .int .i64 0, .int .i64 0, .int .i64 0, .bool false, .slice none 0 0, .int .i64 0, .int .i64 0, .int .i64 0, .slice none 0 0, .slice none 0 0, .slice none 0 0] 29)
  simp only [World.size_alloc] at Z0
  have HRe := hide hr
  have HRv := hide hrv
  have HRx := hide hrx
  have HRg := hide hrg
  have la : (d.size : Int) = (sz : Int) := by rw [hsz]
  clear hr hrv hrx hrg hsz
  have ka := (unhide A0).S
  have kz := (unhide Z0).S
  have kzf := (unhide Z0).F
  go_enter Try.func7, Try.ntmps7
  go_wp2_with fail
  refine (inodeok id nd tm vt ro cm el wt up a cap n l HN av cv nv lv HNv ax cx nx lx HNx ag cg ng lg HNg hn hnv hnx hng HSZ _ HB _ ((unhide HRe).below (unhide B0)) ((unhide HRv).below (unhide B0)) ((unhide HRx).below (unhide B0)) ((unhide HRg).below (unhide B0))).mono ?_
  rintro e w1 ⟨rfl, hb⟩
  have B1 := hide ((unhide B0).trans (hb.mono (unhide B0).size))
  have A1 := hide ((unhide A0).below hb)
  have Z1 := hide ((unhide Z0).below hb)
  clear hb B0 A0 Z0 ka kz kzf
  have ka := (unhide A1).S
  have kz := (unhide Z1).S
  have kzf := (unhide Z1).F
  go_wp2_with fail
  refine bodyPost_ret (v := .tuple #[.agg #[.int .i64 0, .int .i64 0, .int .i64 0, .int .i64 0, .int .i64 0, .bool false, .slice none 0 0, .int .i64 0, .int .i64 0, .int .i64 0, .slice none 0 0, .slice none 0 0, .slice none 0 0], .slice none 0 0, .int .i64 1]) (by simp [results, Try.results7, go_sem, kz]) rfl ⟨rfl, ?_⟩
  iterate 13 refine Below.setCell ?_ (by exact Nat.le_succ _) _
  exact unhide B1
set_option maxHeartbeats 4000000 in
set_option maxRecDepth 100000 in
theorem iprop_range (id nd tm vt cm el wt : Int) (ro : Int) (up : Bool) (a : Option Addr) (cap n : Nat) (l : List (Int × ByteArray)) (HN : Hid (l.length = n)) (av : Option Addr) (cv nv : Nat) (lv : List Int) (HNv : Hid (lv.length = nv)) (ax : Option Addr) (cx nx : Nat) (lx : List Int) (HNx : Hid (lx.length = nx)) (ag : Option Addr) (cg ng : Nat) (lg : List Int) (HNg : Hid (lg.length = ng)) (hn : n ≤ 1048576) (hnv : nv ≤ 1048576) (hnx : nx ≤ 1048576) (hng : ng ≤ 1048576) (HSZ : Hid (∀ k (h : k < l.length), l[k].2.size ≤ 1048576)) (d : ByteArray) (sz : Nat) (hsz : sz = d.size) (dl : ¬ (65536 : Int) < (sz : Int)) (HB : Hid (true = nodeB id nd tm vt ro cm el wt up l lv lx lg)) (HW : Hid (false = inB (sz : Int) 1 400)) (w : World) (hr : RowV w a (cE l)) (hrv : RowV w av (cI lv)) (hrx : RowV w ax (cI lx)) (hrg : RowV w ag (cI lg)) :
    Calls Try.prog 7 #[.agg #[.int .i64 id, .int .i64 nd, .int .i64 tm, .int .i64 vt, .int .i64 ro, .bool up, .slice a n cap, .int .i64 cm, .int .i64 el, .int .i64 wt, .slice av nv cv, .slice ax nx cx, .slice ag ng cg], .string d] w fun e w' => e = .returned (.tuple #[.agg #[.int .i64 0, .int .i64 0, .int .i64 0, .int .i64 0, .int .i64 0, .bool false, .slice none 0 0, .int .i64 0, .int .i64 0, .int .i64 0, .slice none 0 0, .slice none 0 0, .slice none 0 0], .slice none 0 0, .int .i64 4]) ∧ Below w.heap.size w w' := by
  have B0 := hide (Go.Joins.below_alloc2 w (.cells #[.int .i64 id, .int .i64 nd, .int .i64 tm, .int .i64 vt, .int .i64 ro, .bool up, .slice a n cap, .int .i64 cm, .int .i64 el, .int .i64 wt, .slice av nv cv, .slice ax nx cx, .slice ag ng cg] 29) (.cells #[.int .i64 0, .int .i64 0, .int .i64 0, .int .i64 0, .int .i64 0, .bool false, .slice none 0 0, .int .i64 0, .int .i64 0, .int .i64 0, .slice none 0 0, .slice none 0 0, .slice none 0 0] 29))
  have A0 := hide ((BF.new w #[.int .i64 id, .int .i64 nd, .int .i64 tm, .int .i64 vt, .int .i64 ro, .bool up, .slice a n cap, .int .i64 cm, .int .i64 el, .int .i64 wt, .slice av nv cv, .slice ax nx cx, .slice ag ng cg] 29).alloc (.cells #[.int .i64 0, .int .i64 0, .int .i64 0, .int .i64 0, .int .i64 0, .bool false, .slice none 0 0, .int .i64 0, .int .i64 0, .int .i64 0, .slice none 0 0, .slice none 0 0, .slice none 0 0] 29))
  have Z0 := hide (BF.new (w.alloc (.cells #[.int .i64 id, .int .i64 nd, .int .i64 tm, .int .i64 vt, .int .i64 ro, .bool up, .slice a n cap, .int .i64 cm, .int .i64 el, .int .i64 wt, .slice av nv cv, .slice ax nx cx, .slice ag ng cg] 29)) #[.int .i64 0, .int .i64 0, .int .i64 0, .int .i64 0, .int .i64 0, .bool false, .slice none 0 0, .int .i64 0, .int .i64 0, .int .i64 0, .slice none 0 0, .slice none 0 0, .slice none 0 0] 29)
  simp only [World.size_alloc] at Z0
  have HRe := hide hr
  have HRv := hide hrv
  have HRx := hide hrx
  have HRg := hide hrg
  have la : (d.size : Int) = (sz : Int) := by rw [hsz]
  clear hr hrv hrx hrg hsz
  have ka := (unhide A0).S
  have kz := (unhide Z0).S
  have kzf := (unhide Z0).F
  go_enter Try.func7, Try.ntmps7
  go_wp2_with fail
  refine (inodeok id nd tm vt ro cm el wt up a cap n l HN av cv nv lv HNv ax cx nx lx HNx ag cg ng lg HNg hn hnv hnx hng HSZ _ HB _ ((unhide HRe).below (unhide B0)) ((unhide HRv).below (unhide B0)) ((unhide HRx).below (unhide B0)) ((unhide HRg).below (unhide B0))).mono ?_
  rintro e w1 ⟨rfl, hb⟩
  have B1 := hide ((unhide B0).trans (hb.mono (unhide B0).size))
  have A1 := hide ((unhide A0).below hb)
  have Z1 := hide ((unhide Z0).below hb)
  clear hb B0 A0 Z0 ka kz kzf
  have ka := (unhide A1).S
  have kz := (unhide Z1).S
  have kzf := (unhide Z1).F
  go_wp2_with fail
  refine (iwi (sz : Int) 1 400 _ HW _).mono ?_
  rintro e w1b ⟨rfl, hw⟩
  subst hw
  go_wp2_with fail
  refine bodyPost_ret (v := .tuple #[.agg #[.int .i64 0, .int .i64 0, .int .i64 0, .int .i64 0, .int .i64 0, .bool false, .slice none 0 0, .int .i64 0, .int .i64 0, .int .i64 0, .slice none 0 0, .slice none 0 0, .slice none 0 0], .slice none 0 0, .int .i64 4]) (by simp [results, Try.results7, go_sem, kz]) rfl ⟨rfl, ?_⟩
  iterate 13 refine Below.setCell ?_ (by exact Nat.le_succ _) _
  exact unhide B1
set_option maxHeartbeats 4000000 in
set_option maxRecDepth 100000 in
theorem iprop_down (id nd tm vt cm el wt : Int) (ro : Int) (a : Option Addr) (cap n : Nat) (l : List (Int × ByteArray)) (HN : Hid (l.length = n)) (av : Option Addr) (cv nv : Nat) (lv : List Int) (HNv : Hid (lv.length = nv)) (ax : Option Addr) (cx nx : Nat) (lx : List Int) (HNx : Hid (lx.length = nx)) (ag : Option Addr) (cg ng : Nat) (lg : List Int) (HNg : Hid (lg.length = ng)) (hn : n ≤ 1048576) (hnv : nv ≤ 1048576) (hnx : nx ≤ 1048576) (hng : ng ≤ 1048576) (HSZ : Hid (∀ k (h : k < l.length), l[k].2.size ≤ 1048576)) (d : ByteArray) (sz : Nat) (hsz : sz = d.size) (dl : ¬ (65536 : Int) < (sz : Int)) (HB : Hid (true = nodeB id nd tm vt ro cm el wt false l lv lx lg)) (HW : Hid (true = inB (sz : Int) 1 400)) (w : World) (hr : RowV w a (cE l)) (hrv : RowV w av (cI lv)) (hrx : RowV w ax (cI lx)) (hrg : RowV w ag (cI lg)) :
    Calls Try.prog 7 #[.agg #[.int .i64 id, .int .i64 nd, .int .i64 tm, .int .i64 vt, .int .i64 ro, .bool false, .slice a n cap, .int .i64 cm, .int .i64 el, .int .i64 wt, .slice av nv cv, .slice ax nx cx, .slice ag ng cg], .string d] w fun e w' => ∃ eA eC vA vC xA xC gA gC loe hie lov hiv lox hix log hig, e = .returned (.tuple #[.agg #[.int .i64 id, .int .i64 nd, .int .i64 tm, .int .i64 vt, .int .i64 ro, .bool false, .slice eA n eC, .int .i64 cm, .int .i64 el, .int .i64 wt, .slice vA nv vC, .slice xA nx xC, .slice gA ng gC], .slice none 0 0, .int .i64 13]) ∧ HeldZ 2 w' loe hie 49 (.slice eA n eC) n (cE l) ∧ Held w' lov hiv 3 (.slice vA nv vC) nv (cI lv) ∧ Held w' lox hix 3 (.slice xA nx xC) nx (cI lx) ∧ Held w' log hig 3 (.slice gA ng gC) ng (cI lg) ∧ (w.heap.size ≤ loe ∧ hie ≤ lov ∧ hiv ≤ lox ∧ hix ≤ log) ∧ (loe ≤ hie ∧ lov ≤ hiv ∧ lox ≤ hix ∧ log ≤ hig) ∧ Below w.heap.size w w' := by
  have B0 := hide (Go.Joins.below_alloc2 w (.cells #[.int .i64 id, .int .i64 nd, .int .i64 tm, .int .i64 vt, .int .i64 ro, .bool false, .slice a n cap, .int .i64 cm, .int .i64 el, .int .i64 wt, .slice av nv cv, .slice ax nx cx, .slice ag ng cg] 29) (.cells #[.int .i64 0, .int .i64 0, .int .i64 0, .int .i64 0, .int .i64 0, .bool false, .slice none 0 0, .int .i64 0, .int .i64 0, .int .i64 0, .slice none 0 0, .slice none 0 0, .slice none 0 0] 29))
  have A0 := hide ((BF.new w #[.int .i64 id, .int .i64 nd, .int .i64 tm, .int .i64 vt, .int .i64 ro, .bool false, .slice a n cap, .int .i64 cm, .int .i64 el, .int .i64 wt, .slice av nv cv, .slice ax nx cx, .slice ag ng cg] 29).alloc (.cells #[.int .i64 0, .int .i64 0, .int .i64 0, .int .i64 0, .int .i64 0, .bool false, .slice none 0 0, .int .i64 0, .int .i64 0, .int .i64 0, .slice none 0 0, .slice none 0 0, .slice none 0 0] 29))
  have Z0 := hide (BF.new (w.alloc (.cells #[.int .i64 id, .int .i64 nd, .int .i64 tm, .int .i64 vt, .int .i64 ro, .bool false, .slice a n cap, .int .i64 cm, .int .i64 el, .int .i64 wt, .slice av nv cv, .slice ax nx cx, .slice ag ng cg] 29)) #[.int .i64 0, .int .i64 0, .int .i64 0, .int .i64 0, .int .i64 0, .bool false, .slice none 0 0, .int .i64 0, .int .i64 0, .int .i64 0, .slice none 0 0, .slice none 0 0, .slice none 0 0] 29)
  simp only [World.size_alloc] at Z0
  have HRe := hide hr
  have HRv := hide hrv
  have HRx := hide hrx
  have HRg := hide hrg
  have la : (d.size : Int) = (sz : Int) := by rw [hsz]
  clear hr hrv hrx hrg hsz
  have ka := (unhide A0).S
  have kz := (unhide Z0).S
  have kzf := (unhide Z0).F
  go_enter Try.func7, Try.ntmps7
  go_wp2_with fail
  refine (inodeok id nd tm vt ro cm el wt false a cap n l HN av cv nv lv HNv ax cx nx lx HNx ag cg ng lg HNg hn hnv hnx hng HSZ _ HB _ ((unhide HRe).below (unhide B0)) ((unhide HRv).below (unhide B0)) ((unhide HRx).below (unhide B0)) ((unhide HRg).below (unhide B0))).mono ?_
  rintro e w1 ⟨rfl, hb⟩
  have B1 := hide ((unhide B0).trans (hb.mono (unhide B0).size))
  have A1 := hide ((unhide A0).below hb)
  have Z1 := hide ((unhide Z0).below hb)
  clear hb B0 A0 Z0 ka kz kzf
  have ka := (unhide A1).S
  have kz := (unhide Z1).S
  have kzf := (unhide Z1).F
  go_wp2_with fail
  refine (iwi (sz : Int) 1 400 _ HW _).mono ?_
  rintro e w1b ⟨rfl, hw⟩
  subst hw
  go_wp2_with fail
  refine (icopN id nd tm vt ro cm el wt false a cap n l HN av cv nv lv HNv ax cx nx lx HNx ag cg ng lg HNg hn hnv hnx hng _ ((unhide HRe).below (unhide B1)) ((unhide HRv).below (unhide B1)) ((unhide HRx).below (unhide B1)) ((unhide HRg).below (unhide B1))).mono ?_
  rintro e w2 ⟨eA, eC, vA, vC, xA, xC, gA, gC, loe, hie, lov, hiv, lox, hix, log, hig, rfl, he, hv, hx, hg, ⟨q0, q1, q2, q3⟩, ⟨r0, r1, r2, r3⟩, hb⟩
  have B2 := hide ((unhide B1).trans (hb.mono (unhide B1).size))
  have A2 := hide ((unhide A1).below hb)
  have Z2 := hide ((unhide Z1).below hb)
  have zl := (unhide Z1).lt
  have ho : Hid (w.heap.size + 1 < loe ∧ w.heap.size + 1 < lov ∧ w.heap.size + 1 < lox ∧ w.heap.size + 1 < log) := by show _ ∧ _; omega
  have HQ : Hid ((w.heap.size ≤ loe ∧ hie ≤ lov ∧ hiv ≤ lox ∧ hix ≤ log) ∧ (loe ≤ hie ∧ lov ≤ hiv ∧ lox ≤ hix ∧ log ≤ hig)) := by show _ ∧ _; omega
  have E1 := hide he
  have V1 := hide hv
  have X1 := hide hx
  have G1 := hide hg
  clear zl q0 q1 q2 q3 r0 r1 r2 r3 he hv hx hg
  clear hb B1 A1 Z1 ka kz kzf
  have ka := (unhide A2).S
  have kz := (unhide Z2).S
  have kzf := (unhide Z2).F
  go_wp2_with fail
  refine bodyPost_ret (v := .tuple #[.agg #[.int .i64 id, .int .i64 nd, .int .i64 tm, .int .i64 vt, .int .i64 ro, .bool false, .slice eA n eC, .int .i64 cm, .int .i64 el, .int .i64 wt, .slice vA nv vC, .slice xA nx xC, .slice gA ng gC], .slice none 0 0, .int .i64 13]) (by simp [results, Try.results7, go_sem, kz]) rfl ⟨eA, eC, vA, vC, xA, xC, gA, gC, loe, hie, lov, hiv, lox, hix, log, hig, rfl, ?_, ?_, ?_, ?_, (unhide HQ).1, (unhide HQ).2, ?_⟩
  · iterate 13 refine HeldZ.setC ?_ (by show w.heap.size + 1 < loe; exact (unhide ho).1) _
    exact unhide E1
  · iterate 13 refine Held.setC ?_ (by show w.heap.size + 1 < lov; exact (unhide ho).2.1) _
    exact unhide V1
  · iterate 13 refine Held.setC ?_ (by show w.heap.size + 1 < lox; exact (unhide ho).2.2.1) _
    exact unhide X1
  · iterate 13 refine Held.setC ?_ (by show w.heap.size + 1 < log; exact (unhide ho).2.2.2) _
    exact unhide G1
  · iterate 13 refine Below.setCell ?_ (by exact Nat.le_succ _) _
    exact unhide B2
set_option maxHeartbeats 4000000 in
set_option maxRecDepth 100000 in
theorem iprop_lead (id nd tm vt cm el wt : Int) (ro : Int) (a : Option Addr) (cap n : Nat) (l : List (Int × ByteArray)) (HN : Hid (l.length = n)) (av : Option Addr) (cv nv : Nat) (lv : List Int) (HNv : Hid (lv.length = nv)) (ax : Option Addr) (cx nx : Nat) (lx : List Int) (HNx : Hid (lx.length = nx)) (ag : Option Addr) (cg ng : Nat) (lg : List Int) (HNg : Hid (lg.length = ng)) (hn : n ≤ 1048576) (hnv : nv ≤ 1048576) (hnx : nx ≤ 1048576) (hng : ng ≤ 1048576) (HSZ : Hid (∀ k (h : k < l.length), l[k].2.size ≤ 1048576)) (d : ByteArray) (sz : Nat) (hsz : sz = d.size) (dl : ¬ (65536 : Int) < (sz : Int)) (HB : Hid (true = nodeB id nd tm vt ro cm el wt true l lv lx lg)) (HW : Hid (true = inB (sz : Int) 1 400)) (hro : (ro != 2) = true) (w : World) (hr : RowV w a (cE l)) (hrv : RowV w av (cI lv)) (hrx : RowV w ax (cI lx)) (hrg : RowV w ag (cI lg)) :
    Calls Try.prog 7 #[.agg #[.int .i64 id, .int .i64 nd, .int .i64 tm, .int .i64 vt, .int .i64 ro, .bool true, .slice a n cap, .int .i64 cm, .int .i64 el, .int .i64 wt, .slice av nv cv, .slice ax nx cx, .slice ag ng cg], .string d] w fun e w' => ∃ eA eC vA vC xA xC gA gC loe hie lov hiv lox hix log hig, e = .returned (.tuple #[.agg #[.int .i64 id, .int .i64 nd, .int .i64 tm, .int .i64 vt, .int .i64 ro, .bool true, .slice eA n eC, .int .i64 cm, .int .i64 el, .int .i64 wt, .slice vA nv vC, .slice xA nx xC, .slice gA ng gC], .slice none 0 0, .int .i64 12]) ∧ HeldZ 2 w' loe hie 49 (.slice eA n eC) n (cE l) ∧ Held w' lov hiv 3 (.slice vA nv vC) nv (cI lv) ∧ Held w' lox hix 3 (.slice xA nx xC) nx (cI lx) ∧ Held w' log hig 3 (.slice gA ng gC) ng (cI lg) ∧ (w.heap.size ≤ loe ∧ hie ≤ lov ∧ hiv ≤ lox ∧ hix ≤ log) ∧ (loe ≤ hie ∧ lov ≤ hiv ∧ lox ≤ hix ∧ log ≤ hig) ∧ Below w.heap.size w w' := by
  have B0 := hide (Go.Joins.below_alloc2 w (.cells #[.int .i64 id, .int .i64 nd, .int .i64 tm, .int .i64 vt, .int .i64 ro, .bool true, .slice a n cap, .int .i64 cm, .int .i64 el, .int .i64 wt, .slice av nv cv, .slice ax nx cx, .slice ag ng cg] 29) (.cells #[.int .i64 0, .int .i64 0, .int .i64 0, .int .i64 0, .int .i64 0, .bool false, .slice none 0 0, .int .i64 0, .int .i64 0, .int .i64 0, .slice none 0 0, .slice none 0 0, .slice none 0 0] 29))
  have A0 := hide ((BF.new w #[.int .i64 id, .int .i64 nd, .int .i64 tm, .int .i64 vt, .int .i64 ro, .bool true, .slice a n cap, .int .i64 cm, .int .i64 el, .int .i64 wt, .slice av nv cv, .slice ax nx cx, .slice ag ng cg] 29).alloc (.cells #[.int .i64 0, .int .i64 0, .int .i64 0, .int .i64 0, .int .i64 0, .bool false, .slice none 0 0, .int .i64 0, .int .i64 0, .int .i64 0, .slice none 0 0, .slice none 0 0, .slice none 0 0] 29))
  have Z0 := hide (BF.new (w.alloc (.cells #[.int .i64 id, .int .i64 nd, .int .i64 tm, .int .i64 vt, .int .i64 ro, .bool true, .slice a n cap, .int .i64 cm, .int .i64 el, .int .i64 wt, .slice av nv cv, .slice ax nx cx, .slice ag ng cg] 29)) #[.int .i64 0, .int .i64 0, .int .i64 0, .int .i64 0, .int .i64 0, .bool false, .slice none 0 0, .int .i64 0, .int .i64 0, .int .i64 0, .slice none 0 0, .slice none 0 0, .slice none 0 0] 29)
  simp only [World.size_alloc] at Z0
  have HRe := hide hr
  have HRv := hide hrv
  have HRx := hide hrx
  have HRg := hide hrg
  have la : (d.size : Int) = (sz : Int) := by rw [hsz]
  clear hr hrv hrx hrg hsz
  have ka := (unhide A0).S
  have kz := (unhide Z0).S
  have kzf := (unhide Z0).F
  go_enter Try.func7, Try.ntmps7
  go_wp2_with fail
  refine (inodeok id nd tm vt ro cm el wt true a cap n l HN av cv nv lv HNv ax cx nx lx HNx ag cg ng lg HNg hn hnv hnx hng HSZ _ HB _ ((unhide HRe).below (unhide B0)) ((unhide HRv).below (unhide B0)) ((unhide HRx).below (unhide B0)) ((unhide HRg).below (unhide B0))).mono ?_
  rintro e w1 ⟨rfl, hb⟩
  have B1 := hide ((unhide B0).trans (hb.mono (unhide B0).size))
  have A1 := hide ((unhide A0).below hb)
  have Z1 := hide ((unhide Z0).below hb)
  clear hb B0 A0 Z0 ka kz kzf
  have ka := (unhide A1).S
  have kz := (unhide Z1).S
  have kzf := (unhide Z1).F
  go_wp2_with fail
  refine (iwi (sz : Int) 1 400 _ HW _).mono ?_
  rintro e w1b ⟨rfl, hw⟩
  subst hw
  go_wp2_with fail
  refine (icopN id nd tm vt ro cm el wt true a cap n l HN av cv nv lv HNv ax cx nx lx HNx ag cg ng lg HNg hn hnv hnx hng _ ((unhide HRe).below (unhide B1)) ((unhide HRv).below (unhide B1)) ((unhide HRx).below (unhide B1)) ((unhide HRg).below (unhide B1))).mono ?_
  rintro e w2 ⟨eA, eC, vA, vC, xA, xC, gA, gC, loe, hie, lov, hiv, lox, hix, log, hig, rfl, he, hv, hx, hg, ⟨q0, q1, q2, q3⟩, ⟨r0, r1, r2, r3⟩, hb⟩
  have B2 := hide ((unhide B1).trans (hb.mono (unhide B1).size))
  have A2 := hide ((unhide A1).below hb)
  have Z2 := hide ((unhide Z1).below hb)
  have zl := (unhide Z1).lt
  have ho : Hid (w.heap.size + 1 < loe ∧ w.heap.size + 1 < lov ∧ w.heap.size + 1 < lox ∧ w.heap.size + 1 < log) := by show _ ∧ _; omega
  have HQ : Hid ((w.heap.size ≤ loe ∧ hie ≤ lov ∧ hiv ≤ lox ∧ hix ≤ log) ∧ (loe ≤ hie ∧ lov ≤ hiv ∧ lox ≤ hix ∧ log ≤ hig)) := by show _ ∧ _; omega
  have E1 := hide he
  have V1 := hide hv
  have X1 := hide hx
  have G1 := hide hg
  clear zl q0 q1 q2 q3 r0 r1 r2 r3 he hv hx hg
  clear hb B1 A1 Z1 ka kz kzf
  have ka := (unhide A2).S
  have kz := (unhide Z2).S
  have kzf := (unhide Z2).F
  go_wp2_with fail
  refine bodyPost_ret (v := .tuple #[.agg #[.int .i64 id, .int .i64 nd, .int .i64 tm, .int .i64 vt, .int .i64 ro, .bool true, .slice eA n eC, .int .i64 cm, .int .i64 el, .int .i64 wt, .slice vA nv vC, .slice xA nx xC, .slice gA ng gC], .slice none 0 0, .int .i64 12]) (by simp [results, Try.results7, go_sem, kz]) rfl ⟨eA, eC, vA, vC, xA, xC, gA, gC, loe, hie, lov, hiv, lox, hix, log, hig, rfl, ?_, ?_, ?_, ?_, (unhide HQ).1, (unhide HQ).2, ?_⟩
  · iterate 13 refine HeldZ.setC ?_ (by show w.heap.size + 1 < loe; exact (unhide ho).1) _
    exact unhide E1
  · iterate 13 refine Held.setC ?_ (by show w.heap.size + 1 < lov; exact (unhide ho).2.1) _
    exact unhide V1
  · iterate 13 refine Held.setC ?_ (by show w.heap.size + 1 < lox; exact (unhide ho).2.2.1) _
    exact unhide X1
  · iterate 13 refine Held.setC ?_ (by show w.heap.size + 1 < log; exact (unhide ho).2.2.2) _
    exact unhide G1
  · iterate 13 refine Below.setCell ?_ (by exact Nat.le_succ _) _
    exact unhide B2
set_option maxHeartbeats 4000000 in
set_option maxRecDepth 100000 in
theorem iprop_full (id nd tm vt cm el wt : Int) (a : Option Addr) (cap n : Nat) (l : List (Int × ByteArray)) (HN : Hid (l.length = n)) (av : Option Addr) (cv nv : Nat) (lv : List Int) (HNv : Hid (lv.length = nv)) (ax : Option Addr) (cx nx : Nat) (lx : List Int) (HNx : Hid (lx.length = nx)) (ag : Option Addr) (cg ng : Nat) (lg : List Int) (HNg : Hid (lg.length = ng)) (hn : n ≤ 1048576) (hnv : nv ≤ 1048576) (hnx : nx ≤ 1048576) (hng : ng ≤ 1048576) (HSZ : Hid (∀ k (h : k < l.length), l[k].2.size ≤ 1048576)) (d : ByteArray) (sz : Nat) (hsz : sz = d.size) (dl : ¬ (65536 : Int) < (sz : Int)) (HB : Hid (true = nodeB id nd tm vt 2 cm el wt true l lv lx lg)) (HW : Hid (true = inB (sz : Int) 1 400)) (n60 : ((n : Int) == 60) = true) (w : World) (hr : RowV w a (cE l)) (hrv : RowV w av (cI lv)) (hrx : RowV w ax (cI lx)) (hrg : RowV w ag (cI lg)) :
    Calls Try.prog 7 #[.agg #[.int .i64 id, .int .i64 nd, .int .i64 tm, .int .i64 vt, .int .i64 2, .bool true, .slice a n cap, .int .i64 cm, .int .i64 el, .int .i64 wt, .slice av nv cv, .slice ax nx cx, .slice ag ng cg], .string d] w fun e w' => ∃ eA eC vA vC xA xC gA gC loe hie lov hiv lox hix log hig, e = .returned (.tuple #[.agg #[.int .i64 id, .int .i64 nd, .int .i64 tm, .int .i64 vt, .int .i64 2, .bool true, .slice eA n eC, .int .i64 cm, .int .i64 el, .int .i64 wt, .slice vA nv vC, .slice xA nx xC, .slice gA ng gC], .slice none 0 0, .int .i64 7]) ∧ HeldZ 2 w' loe hie 49 (.slice eA n eC) n (cE l) ∧ Held w' lov hiv 3 (.slice vA nv vC) nv (cI lv) ∧ Held w' lox hix 3 (.slice xA nx xC) nx (cI lx) ∧ Held w' log hig 3 (.slice gA ng gC) ng (cI lg) ∧ (w.heap.size ≤ loe ∧ hie ≤ lov ∧ hiv ≤ lox ∧ hix ≤ log) ∧ (loe ≤ hie ∧ lov ≤ hiv ∧ lox ≤ hix ∧ log ≤ hig) ∧ Below w.heap.size w w' := by
  have B0 := hide (Go.Joins.below_alloc2 w (.cells #[.int .i64 id, .int .i64 nd, .int .i64 tm, .int .i64 vt, .int .i64 2, .bool true, .slice a n cap, .int .i64 cm, .int .i64 el, .int .i64 wt, .slice av nv cv, .slice ax nx cx, .slice ag ng cg] 29) (.cells #[.int .i64 0, .int .i64 0, .int .i64 0, .int .i64 0, .int .i64 0, .bool false, .slice none 0 0, .int .i64 0, .int .i64 0, .int .i64 0, .slice none 0 0, .slice none 0 0, .slice none 0 0] 29))
  have A0 := hide ((BF.new w #[.int .i64 id, .int .i64 nd, .int .i64 tm, .int .i64 vt, .int .i64 2, .bool true, .slice a n cap, .int .i64 cm, .int .i64 el, .int .i64 wt, .slice av nv cv, .slice ax nx cx, .slice ag ng cg] 29).alloc (.cells #[.int .i64 0, .int .i64 0, .int .i64 0, .int .i64 0, .int .i64 0, .bool false, .slice none 0 0, .int .i64 0, .int .i64 0, .int .i64 0, .slice none 0 0, .slice none 0 0, .slice none 0 0] 29))
  have Z0 := hide (BF.new (w.alloc (.cells #[.int .i64 id, .int .i64 nd, .int .i64 tm, .int .i64 vt, .int .i64 2, .bool true, .slice a n cap, .int .i64 cm, .int .i64 el, .int .i64 wt, .slice av nv cv, .slice ax nx cx, .slice ag ng cg] 29)) #[.int .i64 0, .int .i64 0, .int .i64 0, .int .i64 0, .int .i64 0, .bool false, .slice none 0 0, .int .i64 0, .int .i64 0, .int .i64 0, .slice none 0 0, .slice none 0 0, .slice none 0 0] 29)
  simp only [World.size_alloc] at Z0
  have HRe := hide hr
  have HRv := hide hrv
  have HRx := hide hrx
  have HRg := hide hrg
  have la : (d.size : Int) = (sz : Int) := by rw [hsz]
  clear hr hrv hrx hrg hsz
  have ka := (unhide A0).S
  have kz := (unhide Z0).S
  have kzf := (unhide Z0).F
  go_enter Try.func7, Try.ntmps7
  go_wp2_with fail
  refine (inodeok id nd tm vt 2 cm el wt true a cap n l HN av cv nv lv HNv ax cx nx lx HNx ag cg ng lg HNg hn hnv hnx hng HSZ _ HB _ ((unhide HRe).below (unhide B0)) ((unhide HRv).below (unhide B0)) ((unhide HRx).below (unhide B0)) ((unhide HRg).below (unhide B0))).mono ?_
  rintro e w1 ⟨rfl, hb⟩
  have B1 := hide ((unhide B0).trans (hb.mono (unhide B0).size))
  have A1 := hide ((unhide A0).below hb)
  have Z1 := hide ((unhide Z0).below hb)
  clear hb B0 A0 Z0 ka kz kzf
  have ka := (unhide A1).S
  have kz := (unhide Z1).S
  have kzf := (unhide Z1).F
  go_wp2_with fail
  refine (iwi (sz : Int) 1 400 _ HW _).mono ?_
  rintro e w1b ⟨rfl, hw⟩
  subst hw
  go_wp2_with fail
  refine (ilast id nd tm vt 2 cm el wt true a cap n av cv nv ax cx nx ag cg ng _).mono ?_
  rintro e w2 ⟨rfl, hb⟩
  have B2 := hide ((unhide B1).trans (hb.mono (unhide B1).size))
  have A2 := hide ((unhide A1).below hb)
  have Z2 := hide ((unhide Z1).below hb)
  clear hb B1 A1 Z1 ka kz kzf
  have ka := (unhide A2).S
  have kz := (unhide Z2).S
  have kzf := (unhide Z2).F
  go_wp2_with fail
  refine (icopN id nd tm vt 2 cm el wt true a cap n l HN av cv nv lv HNv ax cx nx lx HNx ag cg ng lg HNg hn hnv hnx hng _ ((unhide HRe).below (unhide B2)) ((unhide HRv).below (unhide B2)) ((unhide HRx).below (unhide B2)) ((unhide HRg).below (unhide B2))).mono ?_
  rintro e w3 ⟨eA, eC, vA, vC, xA, xC, gA, gC, loe, hie, lov, hiv, lox, hix, log, hig, rfl, he, hv, hx, hg, ⟨q0, q1, q2, q3⟩, ⟨r0, r1, r2, r3⟩, hb⟩
  have B3 := hide ((unhide B2).trans (hb.mono (unhide B2).size))
  have A3 := hide ((unhide A2).below hb)
  have Z3 := hide ((unhide Z2).below hb)
  have zl := (unhide Z2).lt
  have ho : Hid (w.heap.size + 1 < loe ∧ w.heap.size + 1 < lov ∧ w.heap.size + 1 < lox ∧ w.heap.size + 1 < log) := by show _ ∧ _; omega
  have HQ : Hid ((w.heap.size ≤ loe ∧ hie ≤ lov ∧ hiv ≤ lox ∧ hix ≤ log) ∧ (loe ≤ hie ∧ lov ≤ hiv ∧ lox ≤ hix ∧ log ≤ hig)) := by show _ ∧ _; omega
  have E1 := hide he
  have V1 := hide hv
  have X1 := hide hx
  have G1 := hide hg
  clear zl q0 q1 q2 q3 r0 r1 r2 r3 he hv hx hg
  clear hb B2 A2 Z2 ka kz kzf
  have ka := (unhide A3).S
  have kz := (unhide Z3).S
  have kzf := (unhide Z3).F
  go_wp2_with fail
  refine bodyPost_ret (v := .tuple #[.agg #[.int .i64 id, .int .i64 nd, .int .i64 tm, .int .i64 vt, .int .i64 2, .bool true, .slice eA n eC, .int .i64 cm, .int .i64 el, .int .i64 wt, .slice vA nv vC, .slice xA nx xC, .slice gA ng gC], .slice none 0 0, .int .i64 7]) (by simp [results, Try.results7, go_sem, kz]) rfl ⟨eA, eC, vA, vC, xA, xC, gA, gC, loe, hie, lov, hiv, lox, hix, log, hig, rfl, ?_, ?_, ?_, ?_, (unhide HQ).1, (unhide HQ).2, ?_⟩
  · iterate 13 refine HeldZ.setC ?_ (by show w.heap.size + 1 < loe; exact (unhide ho).1) _
    exact unhide E1
  · iterate 13 refine Held.setC ?_ (by show w.heap.size + 1 < lov; exact (unhide ho).2.1) _
    exact unhide V1
  · iterate 13 refine Held.setC ?_ (by show w.heap.size + 1 < lox; exact (unhide ho).2.2.1) _
    exact unhide X1
  · iterate 13 refine Held.setC ?_ (by show w.heap.size + 1 < log; exact (unhide ho).2.2.2) _
    exact unhide G1
  · iterate 13 refine Below.setCell ?_ (by exact Nat.le_succ _) _
    exact unhide B3
set_option maxHeartbeats 4000000 in
set_option maxRecDepth 100000 in
theorem iprop (id nd tm vt ro cm el wt : Int) (up : Bool) (a : Option Addr) (cap n : Nat) (l : List (Int × ByteArray)) (HN : Hid (l.length = n)) (av : Option Addr) (cv nv : Nat) (lv : List Int) (HNv : Hid (lv.length = nv)) (ax : Option Addr) (cx nx : Nat) (lx : List Int) (HNx : Hid (lx.length = nx)) (ag : Option Addr) (cg ng : Nat) (lg : List Int) (HNg : Hid (lg.length = ng)) (hn : n ≤ 1048576) (hnv : nv ≤ 1048576) (hnx : nx ≤ 1048576) (hng : ng ≤ 1048576) (HSZ : Hid (∀ k (h : k < l.length), l[k].2.size ≤ 1048576)) (d : ByteArray) (sz : Nat) (hsz : sz = d.size) (N' : Nf) (M : List Mg) (cc : Int) (HIS : Hid (prA ⟨id, nd, tm, vt, ro, up, l, cm, el, wt, lv, lx, lg⟩ d = (N', M, cc))) (w : World) (hr : RowV w a (cE l)) (hrv : RowV w av (cI lv)) (hrx : RowV w ax (cI lx)) (hrg : RowV w ag (cI lg)) :
    Calls Try.prog 7 #[.agg #[.int .i64 id, .int .i64 nd, .int .i64 tm, .int .i64 vt, .int .i64 ro, .bool up, .slice a n cap, .int .i64 cm, .int .i64 el, .int .i64 wt, .slice av nv cv, .slice ax nx cx, .slice ag ng cg], .string d] w fun e w' => PAns w w' e N' M cc ∧ Below w.heap.size w w' := by
  have his := unhide HIS
  unfold prA at his
  by_cases h1 : 65536 < d.size
  · rw [if_pos h1] at his
    injection his with e1 his
    injection his with e2 e3
    subst e1 e2 e3
    refine (iprop_long id nd tm vt cm el wt ro up a cap n l HN av cv nv lv HNv ax cx nx lx HNx ag cg ng lg HNg hn hnv hnx hng HSZ d sz hsz (by omega) w hr hrv hrx hrg).mono ?_
    rintro e w' ⟨rfl, hb⟩
    exact ⟨pans_zero 2 hb.size, hb⟩
  rw [if_neg h1] at his
  have dl : ¬ (65536 : Int) < (sz : Int) := by omega
  rcases bdic (nodeB id nd tm vt ro cm el wt up l lv lx lg) with hB | hB
  · rw [if_pos (show nfB ⟨id, nd, tm, vt, ro, up, l, cm, el, wt, lv, lx, lg⟩ = false from hB)] at his
    injection his with e1 his
    injection his with e2 e3
    subst e1 e2 e3
    refine (iprop_bad id nd tm vt cm el wt ro up a cap n l HN av cv nv lv HNv ax cx nx lx HNx ag cg ng lg HNg hn hnv hnx hng HSZ d sz hsz dl (hide hB.symm) w hr hrv hrx hrg).mono ?_
    rintro e w' ⟨rfl, hb⟩
    exact ⟨pans_zero 1 hb.size, hb⟩
  rw [if_neg (show ¬ nfB ⟨id, nd, tm, vt, ro, up, l, cm, el, wt, lv, lx, lg⟩ = false from by intro h; rw [show nfB ⟨id, nd, tm, vt, ro, up, l, cm, el, wt, lv, lx, lg⟩ = true from hB] at h; cases h)] at his
  rcases bdic (inB (sz : Int) 1 400) with hW | hW
  · rw [if_pos (by rw [← hsz]; exact hW)] at his
    injection his with e1 his
    injection his with e2 e3
    subst e1 e2 e3
    refine (iprop_range id nd tm vt cm el wt ro up a cap n l HN av cv nv lv HNv ax cx nx lx HNx ag cg ng lg HNg hn hnv hnx hng HSZ d sz hsz dl (hide hB.symm) (hide hW.symm) w hr hrv hrx hrg).mono ?_
    rintro e w' ⟨rfl, hb⟩
    exact ⟨pans_zero 4 hb.size, hb⟩
  rw [if_neg (by rw [← hsz, hW]; simp)] at his
  rcases bdic up with hU | hU
  · subst hU
    rw [if_pos rfl] at his
    injection his with e1 his
    injection his with e2 e3
    subst e1 e2 e3
    refine (iprop_down id nd tm vt cm el wt ro a cap n l HN av cv nv lv HNv ax cx nx lx HNx ag cg ng lg HNg hn hnv hnx hng HSZ d sz hsz dl (hide hB.symm) (hide hW.symm) w hr hrv hrx hrg).mono ?_
    rintro e w' ⟨eA, eC, vA, vC, xA, xC, gA, gC, loe, hie, lov, hiv, lox, hix, log, hig, rfl, he, hv, hx, hg, hq1, hq2, hb⟩
    rw [← unhide HN] at he ⊢
    rw [← unhide HNv] at hv ⊢
    rw [← unhide HNx] at hx ⊢
    rw [← unhide HNg] at hg ⊢
    exact ⟨⟨eA, eC, vA, vC, xA, xC, gA, gC, loe, hie, lov, hiv, lox, hix, log, hig, .slice none 0 0, [], w'.heap.size, rfl, ⟨he, hv, hx, hg⟩, by have := he.le; have := hv.le; have := hx.le; have := hg.le; unfold Apart; omega, ⟨hb.size, Nat.le_refl _⟩, rfl, MOwn.nil _ _⟩, hb⟩
  subst hU
  rw [if_neg (by simp)] at his
  by_cases hro : ro = 2
  · subst hro
    rw [if_neg (by simp)] at his
    by_cases h60 : l.length = 60
    · rw [if_pos h60] at his
      injection his with e1 his
      injection his with e2 e3
      subst e1 e2 e3
      refine (iprop_full id nd tm vt cm el wt a cap n l HN av cv nv lv HNv ax cx nx lx HNx ag cg ng lg HNg hn hnv hnx hng HSZ d sz hsz dl (hide hB.symm) (hide hW.symm) (by have := unhide HN; simp; omega) w hr hrv hrx hrg).mono ?_
      rintro e w' ⟨eA, eC, vA, vC, xA, xC, gA, gC, loe, hie, lov, hiv, lox, hix, log, hig, rfl, he, hv, hx, hg, hq1, hq2, hb⟩
      rw [← unhide HN] at he ⊢
      rw [← unhide HNv] at hv ⊢
      rw [← unhide HNx] at hx ⊢
      rw [← unhide HNg] at hg ⊢
      exact ⟨⟨eA, eC, vA, vC, xA, xC, gA, gC, loe, hie, lov, hiv, lox, hix, log, hig, .slice none 0 0, [], w'.heap.size, rfl, ⟨he, hv, hx, hg⟩, by have := he.le; have := hv.le; have := hx.le; have := hg.le; unfold Apart; omega, ⟨hb.size, Nat.le_refl _⟩, rfl, MOwn.nil _ _⟩, hb⟩
    · rw [if_neg h60] at his
      injection his with e1 his
      injection his with e2 e3
      obtain ⟨nd', c', hnd, hcm, h5, h1', hcn, hn60, hlx, hlg, hJ, hlog, htm, hid, hel, hup⟩ := nf_parts (N := ⟨id, nd, tm, vt, 2, true, l, cm, el, wt, lv, lx, lg⟩) hB
      simp only at hnd hcm hcn hn60 hlx hlg hJ hlog
      subst hnd hcm
      have hW2 : 1 ≤ sz ∧ sz ≤ 400 := by have := hW; unfold inB at this; simp at this; omega
      refine (iprop_ok id nd' tm vt c' el wt a cap n l HN av cv nv lv HNv ax cx nx lx HNx ag cg ng lg HNg hn hnv hnx hng HSZ d sz hsz hW2.1 hW2.2 (hide hB.symm) (by have := unhide HN; omega) h5 (by have := unhide HN; omega) (jOf lx) (fun t h => ⟨(hJ t h).1, by have := (hJ t h).2; have := unhide HN; omega⟩) (by have := unhide HNx; show nx = nd'; omega) w hr hrv hrx hrg).mono ?_
      rintro e w' ⟨eA, eC, vA, vC, xA, xC, gA, gC, loe, hie, lov, hiv, lox, hix, log, hig, vm, L, lom, rfl, he, hv, hx, hg, hq0, hq1, hq2, hq5, hq3, hq4, hL, hM, hb⟩
      subst e1 e2 e3
      have hNl : (l ++ [(tm, d)]).length = n + 1 := by rw [List.length_append, unhide HN]; rfl
      have hpn : prN ⟨id, (nd' : Int), tm, vt, 2, true, l, (c' : Int), el, wt, lv, lx, lg⟩ d = ⟨id, (nd' : Int), tm, vt, 2, true, l ++ [(tm, d)], ((advN id tm nd' (l ++ [(tm, d)]) lg c' (n + 1) : Nat) : Int), el, wt, lv, lx, lg⟩ := by
        unfold prN; simp only [Int.toNat_natCast, unhide HN]
      rw [hpn]
      simp only [Int.toNat_natCast]
      rw [← unhide HNv] at hv ⊢
      rw [← unhide HNx] at hx ⊢
      rw [← unhide HNg] at hg ⊢
      rw [← hNl] at he hL ⊢
      have s1 := he.le
      have s2 := hv.le
      have s3 := hx.le
      have s4 := hg.le
      have s5 := hb.size
      exact ⟨⟨eA, eC, vA, vC, xA, xC, gA, gC, loe, hie, lov, hiv, lox, hix, log, hig, vm, L, min lom w'.heap.size, rfl, ⟨he, hv, hx, hg⟩, by unfold Apart; omega, ⟨by omega, Nat.min_le_right _ _⟩, hL, hM.low (Nat.min_le_left _ _)⟩, hb⟩
  · rw [if_pos hro] at his
    injection his with e1 his
    injection his with e2 e3
    subst e1 e2 e3
    refine (iprop_lead id nd tm vt cm el wt ro a cap n l HN av cv nv lv HNv ax cx nx lx HNx ag cg ng lg HNg hn hnv hnx hng HSZ d sz hsz dl (hide hB.symm) (hide hW.symm) (by simpa using hro) w hr hrv hrx hrg).mono ?_
    rintro e w' ⟨eA, eC, vA, vC, xA, xC, gA, gC, loe, hie, lov, hiv, lox, hix, log, hig, rfl, he, hv, hx, hg, hq1, hq2, hb⟩
    rw [← unhide HN] at he ⊢
    rw [← unhide HNv] at hv ⊢
    rw [← unhide HNx] at hx ⊢
    rw [← unhide HNg] at hg ⊢
    exact ⟨⟨eA, eC, vA, vC, xA, xC, gA, gC, loe, hie, lov, hiv, lox, hix, log, hig, .slice none 0 0, [], w'.heap.size, rfl, ⟨he, hv, hx, hg⟩, by have := he.le; have := hv.le; have := hx.le; have := hg.le; unfold Apart; omega, ⟨hb.size, Nat.le_refl _⟩, rfl, MOwn.nil _ _⟩, hb⟩
end Go.Proofs.Ytpadpgjkpajfaaa
