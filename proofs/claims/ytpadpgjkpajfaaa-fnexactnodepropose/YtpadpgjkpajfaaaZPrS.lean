/- NodePropose: what the specification answers, whole. -/
import Derived.Test.YtpadpgjkpajfaaaZSpO
import Derived.Test.YtpadpgjkpajfaaaZNdS
namespace Go.Proofs.Ytpadpgjkpajfaaa
open Go.ChangeShapes Go.WideShapes Go.ChangeAt Go.RowKit
set_option linter.unusedVariables false
set_option maxHeartbeats 4000000 in
set_option maxRecDepth 100000 in
theorem spp_down (id nd tm vt cm el wt : Int) (ro : Int) (a : Option Addr) (cap n : Nat) (av : Option Addr) (cv nv : Nat) (ax : Option Addr) (cx nx : Nat) (ag : Option Addr) (cg ng : Nat) (d : ByteArray)  (w : World) :
    Calls Try.prog 18 #[.agg #[.int .i64 id, .int .i64 nd, .int .i64 tm, .int .i64 vt, .int .i64 ro, .bool false, .slice a n cap, .int .i64 cm, .int .i64 el, .int .i64 wt, .slice av nv cv, .slice ax nx cx, .slice ag ng cg], .string d] w fun e w' => ∃ vm, e = .returned (.tuple #[.agg #[.int .i64 id, .int .i64 nd, .int .i64 tm, .int .i64 vt, .int .i64 ro, .bool false, .slice a n cap, .int .i64 cm, .int .i64 el, .int .i64 wt, .slice av nv cv, .slice ax nx cx, .slice ag ng cg], vm, .int .i64 13]) ∧ MOwn w' w.heap.size vm [] ∧ Below w.heap.size w w' := by
  have B0 := hide (Go.Joins.below_alloc2 w (.cells #[.int .i64 id, .int .i64 nd, .int .i64 tm, .int .i64 vt, .int .i64 ro, .bool false, .slice a n cap, .int .i64 cm, .int .i64 el, .int .i64 wt, .slice av nv cv, .slice ax nx cx, .slice ag ng cg] 29) (.cells #[.int .i64 0, .int .i64 0, .int .i64 0, .int .i64 0, .int .i64 0, .bool false, .slice none 0 0, .int .i64 0, .int .i64 0, .int .i64 0, .slice none 0 0, .slice none 0 0, .slice none 0 0] 29))
  have A0 := hide ((BF.new w #[.int .i64 id, .int .i64 nd, .int .i64 tm, .int .i64 vt, .int .i64 ro, .bool false, .slice a n cap, .int .i64 cm, .int .i64 el, .int .i64 wt, .slice av nv cv, .slice ax nx cx, .slice ag ng cg] 29).alloc (.cells #[.int .i64 0, .int .i64 0, .int .i64 0, .int .i64 0, .int .i64 0, .bool false, .slice none 0 0, .int .i64 0, .int .i64 0, .int .i64 0, .slice none 0 0, .slice none 0 0, .slice none 0 0] 29))
  have Z0 := hide (BF.new (w.alloc (.cells #[.int .i64 id, .int .i64 nd, .int .i64 tm, .int .i64 vt, .int .i64 ro, .bool false, .slice a n cap, .int .i64 cm, .int .i64 el, .int .i64 wt, .slice av nv cv, .slice ax nx cx, .slice ag ng cg] 29)) #[.int .i64 0, .int .i64 0, .int .i64 0, .int .i64 0, .int .i64 0, .bool false, .slice none 0 0, .int .i64 0, .int .i64 0, .int .i64 0, .slice none 0 0, .slice none 0 0, .slice none 0 0] 29)
  have B1 := hide (Go.Joins.below_alloc2 w (.cells #[.int .i64 id, .int .i64 nd, .int .i64 tm, .int .i64 vt, .int .i64 ro, .bool false, .slice a n cap, .int .i64 cm, .int .i64 el, .int .i64 wt, .slice av nv cv, .slice ax nx cx, .slice ag ng cg] 29) (.cells #[.int .i64 id, .int .i64 nd, .int .i64 tm, .int .i64 vt, .int .i64 ro, .bool false, .slice a n cap, .int .i64 cm, .int .i64 el, .int .i64 wt, .slice av nv cv, .slice ax nx cx, .slice ag ng cg] 29))
  have Z1 := hide (BF.new (w.alloc (.cells #[.int .i64 id, .int .i64 nd, .int .i64 tm, .int .i64 vt, .int .i64 ro, .bool false, .slice a n cap, .int .i64 cm, .int .i64 el, .int .i64 wt, .slice av nv cv, .slice ax nx cx, .slice ag ng cg] 29)) #[.int .i64 id, .int .i64 nd, .int .i64 tm, .int .i64 vt, .int .i64 ro, .bool false, .slice a n cap, .int .i64 cm, .int .i64 el, .int .i64 wt, .slice av nv cv, .slice ax nx cx, .slice ag ng cg] 29)
  simp only [World.size_alloc] at Z0 Z1
  have kz1 := ((unhide Z1).alloc (.cells #[] 55)).S
  have ML := hide (MOwn.lit ((w.alloc (.cells #[.int .i64 id, .int .i64 nd, .int .i64 tm, .int .i64 vt, .int .i64 ro, .bool false, .slice a n cap, .int .i64 cm, .int .i64 el, .int .i64 wt, .slice av nv cv, .slice ax nx cx, .slice ag ng cg] 29)).alloc (.cells #[.int .i64 id, .int .i64 nd, .int .i64 tm, .int .i64 vt, .int .i64 ro, .bool false, .slice a n cap, .int .i64 cm, .int .i64 el, .int .i64 wt, .slice av nv cv, .slice ax nx cx, .slice ag ng cg] 29)) w.heap.size (by simp only [World.size_alloc]; omega))
  have BL := hide ((unhide B1).alloc (unhide B1).size (.cells #[] 55))
  simp only [World.size_alloc] at ML
  have ka := (unhide A0).S
  have kz := (unhide Z0).S
  have kzf := (unhide Z0).F
  go_enter Try.func18, Try.ntmps18
  go_wp2_with fail
  refine bodyPost_ret (v := .tuple #[.agg #[.int .i64 id, .int .i64 nd, .int .i64 tm, .int .i64 vt, .int .i64 ro, .bool false, .slice a n cap, .int .i64 cm, .int .i64 el, .int .i64 wt, .slice av nv cv, .slice ax nx cx, .slice ag ng cg], .slice (some ⟨w.heap.size + 1 + 1, 0, none⟩) 0 0, .int .i64 13]) (by simp [results, Try.results18, go_sem, kz1]) rfl ⟨_, rfl, unhide ML, unhide BL⟩
set_option maxHeartbeats 4000000 in
set_option maxRecDepth 100000 in
theorem spp_lead (id nd tm vt cm el wt : Int) (ro : Int) (a : Option Addr) (cap n : Nat) (av : Option Addr) (cv nv : Nat) (ax : Option Addr) (cx nx : Nat) (ag : Option Addr) (cg ng : Nat) (d : ByteArray) (hro : (ro != 2) = true) (w : World) :
    Calls Try.prog 18 #[.agg #[.int .i64 id, .int .i64 nd, .int .i64 tm, .int .i64 vt, .int .i64 ro, .bool true, .slice a n cap, .int .i64 cm, .int .i64 el, .int .i64 wt, .slice av nv cv, .slice ax nx cx, .slice ag ng cg], .string d] w fun e w' => ∃ vm, e = .returned (.tuple #[.agg #[.int .i64 id, .int .i64 nd, .int .i64 tm, .int .i64 vt, .int .i64 ro, .bool true, .slice a n cap, .int .i64 cm, .int .i64 el, .int .i64 wt, .slice av nv cv, .slice ax nx cx, .slice ag ng cg], vm, .int .i64 12]) ∧ MOwn w' w.heap.size vm [] ∧ Below w.heap.size w w' := by
  have B0 := hide (Go.Joins.below_alloc2 w (.cells #[.int .i64 id, .int .i64 nd, .int .i64 tm, .int .i64 vt, .int .i64 ro, .bool true, .slice a n cap, .int .i64 cm, .int .i64 el, .int .i64 wt, .slice av nv cv, .slice ax nx cx, .slice ag ng cg] 29) (.cells #[.int .i64 0, .int .i64 0, .int .i64 0, .int .i64 0, .int .i64 0, .bool false, .slice none 0 0, .int .i64 0, .int .i64 0, .int .i64 0, .slice none 0 0, .slice none 0 0, .slice none 0 0] 29))
  have A0 := hide ((BF.new w #[.int .i64 id, .int .i64 nd, .int .i64 tm, .int .i64 vt, .int .i64 ro, .bool true, .slice a n cap, .int .i64 cm, .int .i64 el, .int .i64 wt, .slice av nv cv, .slice ax nx cx, .slice ag ng cg] 29).alloc (.cells #[.int .i64 0, .int .i64 0, .int .i64 0, .int .i64 0, .int .i64 0, .bool false, .slice none 0 0, .int .i64 0, .int .i64 0, .int .i64 0, .slice none 0 0, .slice none 0 0, .slice none 0 0] 29))
  have Z0 := hide (BF.new (w.alloc (.cells #[.int .i64 id, .int .i64 nd, .int .i64 tm, .int .i64 vt, .int .i64 ro, .bool true, .slice a n cap, .int .i64 cm, .int .i64 el, .int .i64 wt, .slice av nv cv, .slice ax nx cx, .slice ag ng cg] 29)) #[.int .i64 0, .int .i64 0, .int .i64 0, .int .i64 0, .int .i64 0, .bool false, .slice none 0 0, .int .i64 0, .int .i64 0, .int .i64 0, .slice none 0 0, .slice none 0 0, .slice none 0 0] 29)
  have B1 := hide (Go.Joins.below_alloc2 w (.cells #[.int .i64 id, .int .i64 nd, .int .i64 tm, .int .i64 vt, .int .i64 ro, .bool true, .slice a n cap, .int .i64 cm, .int .i64 el, .int .i64 wt, .slice av nv cv, .slice ax nx cx, .slice ag ng cg] 29) (.cells #[.int .i64 id, .int .i64 nd, .int .i64 tm, .int .i64 vt, .int .i64 ro, .bool true, .slice a n cap, .int .i64 cm, .int .i64 el, .int .i64 wt, .slice av nv cv, .slice ax nx cx, .slice ag ng cg] 29))
  have Z1 := hide (BF.new (w.alloc (.cells #[.int .i64 id, .int .i64 nd, .int .i64 tm, .int .i64 vt, .int .i64 ro, .bool true, .slice a n cap, .int .i64 cm, .int .i64 el, .int .i64 wt, .slice av nv cv, .slice ax nx cx, .slice ag ng cg] 29)) #[.int .i64 id, .int .i64 nd, .int .i64 tm, .int .i64 vt, .int .i64 ro, .bool true, .slice a n cap, .int .i64 cm, .int .i64 el, .int .i64 wt, .slice av nv cv, .slice ax nx cx, .slice ag ng cg] 29)
  simp only [World.size_alloc] at Z0 Z1
  have kz1 := ((unhide Z1).alloc (.cells #[] 55)).S
  have ML := hide (MOwn.lit ((w.alloc (.cells #[.int .i64 id, .int .i64 nd, .int .i64 tm, .int .i64 vt, .int .i64 ro, .bool true, .slice a n cap, .int .i64 cm, .int .i64 el, .int .i64 wt, .slice av nv cv, .slice ax nx cx, .slice ag ng cg] 29)).alloc (.cells #[.int .i64 id, .int .i64 nd, .int .i64 tm, .int .i64 vt, .int .i64 ro, .bool true, .slice a n cap, .int .i64 cm, .int .i64 el, .int .i64 wt, .slice av nv cv, .slice ax nx cx, .slice ag ng cg] 29)) w.heap.size (by simp only [World.size_alloc]; omega))
  have BL := hide ((unhide B1).alloc (unhide B1).size (.cells #[] 55))
  simp only [World.size_alloc] at ML
  have ka := (unhide A0).S
  have kz := (unhide Z0).S
  have kzf := (unhide Z0).F
  go_enter Try.func18, Try.ntmps18
  go_wp2_with fail
  refine bodyPost_ret (v := .tuple #[.agg #[.int .i64 id, .int .i64 nd, .int .i64 tm, .int .i64 vt, .int .i64 ro, .bool true, .slice a n cap, .int .i64 cm, .int .i64 el, .int .i64 wt, .slice av nv cv, .slice ax nx cx, .slice ag ng cg], .slice (some ⟨w.heap.size + 1 + 1, 0, none⟩) 0 0, .int .i64 12]) (by simp [results, Try.results18, go_sem, kz1]) rfl ⟨_, rfl, unhide ML, unhide BL⟩
set_option maxHeartbeats 4000000 in
set_option maxRecDepth 100000 in
theorem spp_full (id nd tm vt cm el wt : Int) (a : Option Addr) (cap n : Nat) (av : Option Addr) (cv nv : Nat) (ax : Option Addr) (cx nx : Nat) (ag : Option Addr) (cg ng : Nat) (d : ByteArray) (n60 : ((n : Int) == 60) = true) (w : World) :
    Calls Try.prog 18 #[.agg #[.int .i64 id, .int .i64 nd, .int .i64 tm, .int .i64 vt, .int .i64 2, .bool true, .slice a n cap, .int .i64 cm, .int .i64 el, .int .i64 wt, .slice av nv cv, .slice ax nx cx, .slice ag ng cg], .string d] w fun e w' => ∃ vm, e = .returned (.tuple #[.agg #[.int .i64 id, .int .i64 nd, .int .i64 tm, .int .i64 vt, .int .i64 2, .bool true, .slice a n cap, .int .i64 cm, .int .i64 el, .int .i64 wt, .slice av nv cv, .slice ax nx cx, .slice ag ng cg], vm, .int .i64 7]) ∧ MOwn w' w.heap.size vm [] ∧ Below w.heap.size w w' := by
  have B0 := hide (Go.Joins.below_alloc2 w (.cells #[.int .i64 id, .int .i64 nd, .int .i64 tm, .int .i64 vt, .int .i64 2, .bool true, .slice a n cap, .int .i64 cm, .int .i64 el, .int .i64 wt, .slice av nv cv, .slice ax nx cx, .slice ag ng cg] 29) (.cells #[.int .i64 0, .int .i64 0, .int .i64 0, .int .i64 0, .int .i64 0, .bool false, .slice none 0 0, .int .i64 0, .int .i64 0, .int .i64 0, .slice none 0 0, .slice none 0 0, .slice none 0 0] 29))
  have A0 := hide ((BF.new w #[.int .i64 id, .int .i64 nd, .int .i64 tm, .int .i64 vt, .int .i64 2, .bool true, .slice a n cap, .int .i64 cm, .int .i64 el, .int .i64 wt, .slice av nv cv, .slice ax nx cx, .slice ag ng cg] 29).alloc (.cells #[.int .i64 0, .int .i64 0, .int .i64 0, .int .i64 0, .int .i64 0, .bool false, .slice none 0 0, .int .i64 0, .int .i64 0, .int .i64 0, .slice none 0 0, .slice none 0 0, .slice none 0 0] 29))
  have Z0 := hide (BF.new (w.alloc (.cells #[.int .i64 id, .int .i64 nd, .int .i64 tm, .int .i64 vt, .int .i64 2, .bool true, .slice a n cap, .int .i64 cm, .int .i64 el, .int .i64 wt, .slice av nv cv, .slice ax nx cx, .slice ag ng cg] 29)) #[.int .i64 0, .int .i64 0, .int .i64 0, .int .i64 0, .int .i64 0, .bool false, .slice none 0 0, .int .i64 0, .int .i64 0, .int .i64 0, .slice none 0 0, .slice none 0 0, .slice none 0 0] 29)
  have B1 := hide (Go.Joins.below_alloc2 w (.cells #[.int .i64 id, .int .i64 nd, .int .i64 tm, .int .i64 vt, .int .i64 2, .bool true, .slice a n cap, .int .i64 cm, .int .i64 el, .int .i64 wt, .slice av nv cv, .slice ax nx cx, .slice ag ng cg] 29) (.cells #[.int .i64 id, .int .i64 nd, .int .i64 tm, .int .i64 vt, .int .i64 2, .bool true, .slice a n cap, .int .i64 cm, .int .i64 el, .int .i64 wt, .slice av nv cv, .slice ax nx cx, .slice ag ng cg] 29))
  have Z1 := hide (BF.new (w.alloc (.cells #[.int .i64 id, .int .i64 nd, .int .i64 tm, .int .i64 vt, .int .i64 2, .bool true, .slice a n cap, .int .i64 cm, .int .i64 el, .int .i64 wt, .slice av nv cv, .slice ax nx cx, .slice ag ng cg] 29)) #[.int .i64 id, .int .i64 nd, .int .i64 tm, .int .i64 vt, .int .i64 2, .bool true, .slice a n cap, .int .i64 cm, .int .i64 el, .int .i64 wt, .slice av nv cv, .slice ax nx cx, .slice ag ng cg] 29)
  simp only [World.size_alloc] at Z0 Z1
  have kz1 := ((unhide Z1).alloc (.cells #[] 55)).S
  have ML := hide (MOwn.lit ((w.alloc (.cells #[.int .i64 id, .int .i64 nd, .int .i64 tm, .int .i64 vt, .int .i64 2, .bool true, .slice a n cap, .int .i64 cm, .int .i64 el, .int .i64 wt, .slice av nv cv, .slice ax nx cx, .slice ag ng cg] 29)).alloc (.cells #[.int .i64 id, .int .i64 nd, .int .i64 tm, .int .i64 vt, .int .i64 2, .bool true, .slice a n cap, .int .i64 cm, .int .i64 el, .int .i64 wt, .slice av nv cv, .slice ax nx cx, .slice ag ng cg] 29)) w.heap.size (by simp only [World.size_alloc]; omega))
  have BL := hide ((unhide B1).alloc (unhide B1).size (.cells #[] 55))
  simp only [World.size_alloc] at ML
  have ka := (unhide A0).S
  have kz := (unhide Z0).S
  have kzf := (unhide Z0).F
  go_enter Try.func18, Try.ntmps18
  go_wp2_with fail
  refine bodyPost_ret (v := .tuple #[.agg #[.int .i64 id, .int .i64 nd, .int .i64 tm, .int .i64 vt, .int .i64 2, .bool true, .slice a n cap, .int .i64 cm, .int .i64 el, .int .i64 wt, .slice av nv cv, .slice ax nx cx, .slice ag ng cg], .slice (some ⟨w.heap.size + 1 + 1, 0, none⟩) 0 0, .int .i64 7]) (by simp [results, Try.results18, go_sem, kz1]) rfl ⟨_, rfl, unhide ML, unhide BL⟩
set_option maxHeartbeats 4000000 in
set_option maxRecDepth 100000 in
theorem spp (id nd tm vt ro cm el wt : Int) (up : Bool) (a : Option Addr) (cap n : Nat) (l : List (Int × ByteArray)) (HN : Hid (l.length = n)) (av : Option Addr) (cv nv : Nat) (lv : List Int) (HNv : Hid (lv.length = nv)) (ax : Option Addr) (cx nx : Nat) (lx : List Int) (HNx : Hid (lx.length = nx)) (ag : Option Addr) (cg ng : Nat) (lg : List Int) (HNg : Hid (lg.length = ng)) (hn : n ≤ 1048576) (hnv : nv ≤ 1048576) (hnx : nx ≤ 1048576) (hng : ng ≤ 1048576) (d : ByteArray) (h1 : ¬ 65536 < d.size) (hB : nodeB id nd tm vt ro cm el wt up l lv lx lg = true) (hW : inB (d.size : Int) 1 400 = true) (id' nd' tm' vt' ro' : Int) (up' : Bool) (l' : List Ent) (cm' el' wt' : Int) (lv' lx' lg' : List Int) (n' nv' nx' ng' : Nat) (HN' : Hid (l'.length = n')) (HNv' : Hid (lv'.length = nv')) (HNx' : Hid (lx'.length = nx')) (HNg' : Hid (lg'.length = ng')) (M : List Mg) (cc : Int) (HIS : Hid (prA ⟨id, nd, tm, vt, ro, up, l, cm, el, wt, lv, lx, lg⟩ d = (⟨id', nd', tm', vt', ro', up', l', cm', el', wt', lv', lx', lg'⟩, M, cc))) (w : World) (hr : RowV w a (cE l)) (hrv : RowV w av (cI lv)) (hrx : RowV w ax (cI lx)) (hrg : RowV w ag (cI lg)) :
    Calls Try.prog 18 #[.agg #[.int .i64 id, .int .i64 nd, .int .i64 tm, .int .i64 vt, .int .i64 ro, .bool up, .slice a n cap, .int .i64 cm, .int .i64 el, .int .i64 wt, .slice av nv cv, .slice ax nx cx, .slice ag ng cg], .string d] w fun e w' => ∃ eA eC vA vC xA xC gA gC vm L, e = .returned (.tuple #[.agg #[.int .i64 id', .int .i64 nd', .int .i64 tm', .int .i64 vt', .int .i64 ro', .bool up', .slice eA n' eC, .int .i64 cm', .int .i64 el', .int .i64 wt', .slice vA nv' vC, .slice xA nx' xC, .slice gA ng' gC], vm, .int .i64 cc]) ∧ (RowV w' eA (cE l') ∧ RowV w' vA (cI lv') ∧ RowV w' xA (cI lx') ∧ RowV w' gA (cI lg')) ∧ L.map (·.1) = M ∧ MOwn w' w.heap.size vm L ∧ Below w.heap.size w w' := by
  have his := unhide HIS
  unfold prA at his
  rw [if_neg h1, if_neg (show ¬ nfB ⟨id, nd, tm, vt, ro, up, l, cm, el, wt, lv, lx, lg⟩ = false from by intro h; rw [show nfB ⟨id, nd, tm, vt, ro, up, l, cm, el, wt, lv, lx, lg⟩ = true from hB] at h; cases h), if_neg (by rw [hW]; simp)] at his
  clear HIS
  rcases bdic up with hU | hU
  · subst hU
    rw [if_pos rfl] at his
    obtain rfl := unhide HN'
    obtain rfl := unhide HNv'
    obtain rfl := unhide HNx'
    obtain rfl := unhide HNg'
    injection his with e1 his
    injection his with e2 e3
    injection e1 with i0 i1 i2 i3 i4 i5 i6 i7 i8 i9 ia ib ic
    subst i0 i1 i2 i3 i4 i5 i6 i7 i8 i9 ia ib ic e2 e3
    refine (spp_down id nd tm vt cm el wt ro a cap n av cv nv ax cx nx ag cg ng d w).mono ?_
    rintro e w' ⟨vm, rfl, hm, hb⟩
    rw [← unhide HN, ← unhide HNv, ← unhide HNx, ← unhide HNg]
    exact ⟨a, cap, av, cv, ax, cx, ag, cg, vm, [], rfl, ⟨hr.below hb, hrv.below hb, hrx.below hb, hrg.below hb⟩, rfl, hm, hb⟩
  subst hU
  rw [if_neg (by simp)] at his
  by_cases hro : ro = 2
  · subst hro
    rw [if_neg (by simp)] at his
    by_cases h60 : l.length = 60
    · rw [if_pos h60] at his
      have n60 : ((n : Int) == 60) = true := by have := unhide HN; simp; omega
      obtain rfl := unhide HN'
      obtain rfl := unhide HNv'
      obtain rfl := unhide HNx'
      obtain rfl := unhide HNg'
      injection his with e1 his
      injection his with e2 e3
      injection e1 with i0 i1 i2 i3 i4 i5 i6 i7 i8 i9 ia ib ic
      subst i0 i1 i2 i3 i4 i5 i6 i7 i8 i9 ia ib ic e2 e3
      refine (spp_full id nd tm vt cm el wt a cap n av cv nv ax cx nx ag cg ng d n60 w).mono ?_
      rintro e w' ⟨vm, rfl, hm, hb⟩
      rw [← unhide HN, ← unhide HNv, ← unhide HNx, ← unhide HNg]
      exact ⟨a, cap, av, cv, ax, cx, ag, cg, vm, [], rfl, ⟨hr.below hb, hrv.below hb, hrx.below hb, hrg.below hb⟩, rfl, hm, hb⟩
    · rw [if_neg h60] at his
      injection his with e1 his
      injection his with e2 e3
      obtain ⟨nd2, c2, hnd, hcm, h5, h1', hcn, hn60, hlx, hlg, hJ, hlog, htm, hid, hel, hup⟩ := nf_parts (N := ⟨id, nd, tm, vt, 2, true, l, cm, el, wt, lv, lx, lg⟩) hB
      simp only at hnd hcm hcn hn60 hlx hlg hJ hlog
      subst hnd hcm
      have hNl : (l ++ [(tm, d)]).length = n + 1 := by rw [List.length_append, unhide HN]; rfl
      have hpn : prN ⟨id, (nd2 : Int), tm, vt, 2, true, l, (c2 : Int), el, wt, lv, lx, lg⟩ d = ⟨id, (nd2 : Int), tm, vt, 2, true, l ++ [(tm, d)], ((advN id tm nd2 (l ++ [(tm, d)]) lg c2 (n + 1) : Nat) : Int), el, wt, lv, lx, lg⟩ := by
        unfold prN; simp only [Int.toNat_natCast, unhide HN]
      rw [hpn] at e1 e2
      simp only [Int.toNat_natCast] at e2
      injection e1 with i0 i1 i2 i3 i4 i5 i6 i7 i8 i9 ia ib ic
      subst i0 i1 i2 i3 i4 i5 i6 i7 i8 i9 ia ib ic e2 e3
      obtain rfl : n + 1 = n' := by have := unhide HN'; rw [hNl] at this; exact this
      obtain rfl : nv = nv' := (unhide HNv).symm.trans (unhide HNv')
      obtain rfl : nx = nx' := (unhide HNx).symm.trans (unhide HNx')
      obtain rfl : ng = ng' := (unhide HNg).symm.trans (unhide HNg')
      exact spp_ok id nd2 tm vt c2 el wt a cap n l HN av cv nv lv HNv ax cx nx lx HNx ag cg ng lg HNg hn hnv hnx hng d (by have := unhide HN; omega) h5 (by have := unhide HN; omega) (jOf lx) (fun t h => ⟨(hJ t h).1, by have := (hJ t h).2; have := unhide HN; omega⟩) (by have := unhide HNx; show nx = nd2; omega) (by have := unhide HNg; show ng = nd2; omega) (fun k hk => own_lastA hlog k (by have := unhide HN; omega)) w hr hrv hrx hrg
  · rw [if_pos hro] at his
    have hro2 : (ro != 2) = true := by simpa using hro
    obtain rfl := unhide HN'
    obtain rfl := unhide HNv'
    obtain rfl := unhide HNx'
    obtain rfl := unhide HNg'
    injection his with e1 his
    injection his with e2 e3
    injection e1 with i0 i1 i2 i3 i4 i5 i6 i7 i8 i9 ia ib ic
    subst i0 i1 i2 i3 i4 i5 i6 i7 i8 i9 ia ib ic e2 e3
    refine (spp_lead id nd tm vt cm el wt ro a cap n av cv nv ax cx nx ag cg ng d hro2 w).mono ?_
    rintro e w' ⟨vm, rfl, hm, hb⟩
    rw [← unhide HN, ← unhide HNv, ← unhide HNx, ← unhide HNg]
    exact ⟨a, cap, av, cv, ax, cx, ag, cg, vm, [], rfl, ⟨hr.below hb, hrv.below hb, hrx.below hb, hrg.below hb⟩, rfl, hm, hb⟩
/-- What NodePropose answers, its rows to be read. -/
def SAnsV (w' : World) (e : Ending) (id' nd' tm' vt' ro' : Int) (up' : Bool) (l' : List Ent) (cm' el' wt' : Int) (lv' lx' lg' : List Int) (n' nv' nx' ng' : Nat) (M : List Mg) (cc : Int) : Prop :=
  ∃ eA eC vA vC xA xC gA gC vm L, e = .returned (.tuple #[.agg #[.int .i64 id', .int .i64 nd', .int .i64 tm', .int .i64 vt', .int .i64 ro', .bool up', .slice eA n' eC, .int .i64 cm', .int .i64 el', .int .i64 wt', .slice vA nv' vC, .slice xA nx' xC, .slice gA ng' gC], vm, .int .i64 cc]) ∧ (RowV w' eA (cE l') ∧ RowV w' vA (cI lv') ∧ RowV w' xA (cI lx') ∧ RowV w' gA (cI lg')) ∧ L.map (·.1) = M ∧ MRow w' vm L
set_option maxHeartbeats 4000000 in
set_option maxRecDepth 100000 in
theorem sprop (id nd tm vt ro cm el wt : Int) (up : Bool) (a : Option Addr) (cap n : Nat) (l : List (Int × ByteArray)) (HN : Hid (l.length = n)) (av : Option Addr) (cv nv : Nat) (lv : List Int) (HNv : Hid (lv.length = nv)) (ax : Option Addr) (cx nx : Nat) (lx : List Int) (HNx : Hid (lx.length = nx)) (ag : Option Addr) (cg ng : Nat) (lg : List Int) (HNg : Hid (lg.length = ng)) (hn : n ≤ 1048576) (hnv : nv ≤ 1048576) (hnx : nx ≤ 1048576) (hng : ng ≤ 1048576) (HSZ : Hid (∀ k (h : k < l.length), l[k].2.size ≤ 1048576)) (d : ByteArray) (sz : Nat) (hsz : sz = d.size) (id' nd' tm' vt' ro' : Int) (up' : Bool) (l' : List Ent) (cm' el' wt' : Int) (lv' lx' lg' : List Int) (n' nv' nx' ng' : Nat) (HN' : Hid (l'.length = n')) (HNv' : Hid (lv'.length = nv')) (HNx' : Hid (lx'.length = nx')) (HNg' : Hid (lg'.length = ng')) (M : List Mg) (cc : Int) (hn' : n' ≤ 1048576) (hnv' : nv' ≤ 1048576) (hnx' : nx' ≤ 1048576) (hng' : ng' ≤ 1048576) (HIS : Hid (prA ⟨id, nd, tm, vt, ro, up, l, cm, el, wt, lv, lx, lg⟩ d = (⟨id', nd', tm', vt', ro', up', l', cm', el', wt', lv', lx', lg'⟩, M, cc))) (w : World) (hr : RowV w a (cE l)) (hrv : RowV w av (cI lv)) (hrx : RowV w ax (cI lx)) (hrg : RowV w ag (cI lg)) :
    Calls Try.prog 5 #[.agg #[.int .i64 id, .int .i64 nd, .int .i64 tm, .int .i64 vt, .int .i64 ro, .bool up, .slice a n cap, .int .i64 cm, .int .i64 el, .int .i64 wt, .slice av nv cv, .slice ax nx cx, .slice ag ng cg], .string d] w fun e w' => SAnsV w' e id' nd' tm' vt' ro' up' l' cm' el' wt' lv' lx' lg' n' nv' nx' ng' M cc ∧ Below w.heap.size w w' := by
  have his := unhide HIS
  unfold prA at his
  have B0 := hide (Go.Joins.below_alloc2 w (.cells #[.int .i64 id, .int .i64 nd, .int .i64 tm, .int .i64 vt, .int .i64 ro, .bool up, .slice a n cap, .int .i64 cm, .int .i64 el, .int .i64 wt, .slice av nv cv, .slice ax nx cx, .slice ag ng cg] 29) (.cells #[.int .i64 0, .int .i64 0, .int .i64 0, .int .i64 0, .int .i64 0, .bool false, .slice none 0 0, .int .i64 0, .int .i64 0, .int .i64 0, .slice none 0 0, .slice none 0 0, .slice none 0 0] 29))
  have A0 := hide ((BF.new w #[.int .i64 id, .int .i64 nd, .int .i64 tm, .int .i64 vt, .int .i64 ro, .bool up, .slice a n cap, .int .i64 cm, .int .i64 el, .int .i64 wt, .slice av nv cv, .slice ax nx cx, .slice ag ng cg] 29).alloc (.cells #[.int .i64 0, .int .i64 0, .int .i64 0, .int .i64 0, .int .i64 0, .bool false, .slice none 0 0, .int .i64 0, .int .i64 0, .int .i64 0, .slice none 0 0, .slice none 0 0, .slice none 0 0] 29))
  have Z0 := hide (BF.new (w.alloc (.cells #[.int .i64 id, .int .i64 nd, .int .i64 tm, .int .i64 vt, .int .i64 ro, .bool up, .slice a n cap, .int .i64 cm, .int .i64 el, .int .i64 wt, .slice av nv cv, .slice ax nx cx, .slice ag ng cg] 29)) #[.int .i64 0, .int .i64 0, .int .i64 0, .int .i64 0, .int .i64 0, .bool false, .slice none 0 0, .int .i64 0, .int .i64 0, .int .i64 0, .slice none 0 0, .slice none 0 0, .slice none 0 0] 29)
  simp only [World.size_alloc] at Z0
  have HRe := hide hr
  have HRv := hide hrv
  have HRx := hide hrx
  have HRg := hide hrg
  have la : (d.size : Int) = (sz : Int) := by rw [hsz]
  clear hr hrv hrx hrg
  have ka := (unhide A0).S
  have kz := (unhide Z0).S
  have kzf := (unhide Z0).F
  by_cases h1 : 65536 < d.size
  · rw [if_pos h1] at his
    injection his with e1 his
    injection his with e2 e3
    unfold nfZ at e1
    injection e1 with i0 i1 i2 i3 i4 i5 i6 i7 i8 i9 ia ib ic
    subst i0 i1 i2 i3 i4 i5 i6 i7 i8 i9 ia ib ic e2 e3
    obtain rfl : 0 = n' := unhide HN'
    obtain rfl : 0 = nv' := unhide HNv'
    obtain rfl : 0 = nx' := unhide HNx'
    obtain rfl : 0 = ng' := unhide HNg'
    have dl : (65536 : Int) < (sz : Int) := by omega
    have BL := hide ((unhide B0).alloc (unhide B0).size (.cells #[] 55))
    have kzl := ((unhide Z0).alloc (.cells #[] 55)).S
    clear hsz h1 HIS
    go_enter Try.func5, Try.ntmps5
    go_wp2_with fail
    refine bodyPost_ret (v := .tuple #[.agg #[.int .i64 0, .int .i64 0, .int .i64 0, .int .i64 0, .int .i64 0, .bool false, .slice none 0 0, .int .i64 0, .int .i64 0, .int .i64 0, .slice none 0 0, .slice none 0 0, .slice none 0 0], .slice (some ⟨w.heap.size + 1 + 1, 0, none⟩) 0 0, .int .i64 2]) (by simp [results, Try.results5, go_sem, kzl]) rfl ⟨⟨none, 0, none, 0, none, 0, none, 0, _, [], rfl, ⟨.inl rfl, .inl rfl, .inl rfl, .inl rfl⟩, rfl, mrow_nil _ _ _⟩, unhide BL⟩
  rw [if_neg h1] at his
  have dl : ¬ (65536 : Int) < (sz : Int) := by omega
  have HH1 := hide h1
  have HSD := hide hsz
  obtain ⟨B, hBB⟩ : ∃ B, B = nodeB id nd tm vt ro cm el wt up l lv lx lg := ⟨_, rfl⟩
  have HB := hide hBB
  obtain ⟨W, hWW⟩ : ∃ W, W = inB (sz : Int) 1 400 := ⟨_, rfl⟩
  have HW := hide hWW
  have HIZ := hide his
  clear hsz h1 his hBB hWW
  go_enter Try.func5, Try.ntmps5
  go_wp2_with fail
  refine (snodeok id nd tm vt ro cm el wt up a cap n l HN av cv nv lv HNv ax cx nx lx HNx ag cg ng lg HNg hn hnv hnx hng HSZ B HB _ ((unhide HRe).below (unhide B0)) ((unhide HRv).below (unhide B0)) ((unhide HRx).below (unhide B0)) ((unhide HRg).below (unhide B0))).mono ?_
  rintro e w1 ⟨rfl, hb⟩
  have B1 := hide ((unhide B0).trans (hb.mono (unhide B0).size))
  have A1 := hide ((unhide A0).below hb)
  have Z1 := hide ((unhide Z0).below hb)
  clear hb B0 A0 Z0 ka kz kzf
  have ka := (unhide A1).S
  have kz := (unhide Z1).S
  have kzf := (unhide Z1).F
  have BL := hide ((unhide B1).alloc (unhide B1).size (.cells #[] 55))
  have kzl := ((unhide Z1).alloc (.cells #[] 55)).S
  have kzlf := ((unhide Z1).alloc (.cells #[] 55)).F
  rcases bdic B with hB | hB
  · subst hB
    have his := unhide HIZ
    rw [if_pos (show nfB ⟨id, nd, tm, vt, ro, up, l, cm, el, wt, lv, lx, lg⟩ = false from (unhide HB).symm)] at his
    injection his with e1 his
    injection his with e2 e3
    unfold nfZ at e1
    injection e1 with i0 i1 i2 i3 i4 i5 i6 i7 i8 i9 ia ib ic
    subst i0 i1 i2 i3 i4 i5 i6 i7 i8 i9 ia ib ic e2 e3
    obtain rfl : 0 = n' := unhide HN'
    obtain rfl : 0 = nv' := unhide HNv'
    obtain rfl : 0 = nx' := unhide HNx'
    obtain rfl : 0 = ng' := unhide HNg'
    clear HIS HIZ
    go_wp2_with fail
    refine bodyPost_ret (v := .tuple #[.agg #[.int .i64 0, .int .i64 0, .int .i64 0, .int .i64 0, .int .i64 0, .bool false, .slice none 0 0, .int .i64 0, .int .i64 0, .int .i64 0, .slice none 0 0, .slice none 0 0, .slice none 0 0], .slice (some ⟨w1.heap.size, 0, none⟩) 0 0, .int .i64 1]) (by simp [results, Try.results5, go_sem, kzl]) rfl ⟨⟨none, 0, none, 0, none, 0, none, 0, _, [], rfl, ⟨.inl rfl, .inl rfl, .inl rfl, .inl rfl⟩, rfl, mrow_nil _ _ _⟩, ?_⟩
    iterate 13 refine Below.setCell ?_ (by exact Nat.le_succ _) _
    exact unhide BL
  subst hB
  have his := unhide HIZ
  rw [if_neg (show ¬ nfB ⟨id, nd, tm, vt, ro, up, l, cm, el, wt, lv, lx, lg⟩ = false from by intro h; rw [show nfB ⟨id, nd, tm, vt, ro, up, l, cm, el, wt, lv, lx, lg⟩ = true from (unhide HB).symm] at h; cases h)] at his
  have HIY := hide his
  clear HIZ his
  go_wp2_with fail
  refine (sin (sz : Int) 1 400 _).mono ?_
  rintro e w1b ⟨rfl, hw⟩
  subst hw
  rw [← unhide HW]
  rcases bdic W with hW | hW
  · subst hW
    have his := unhide HIY
    rw [if_pos (by rw [← unhide HSD]; exact (unhide HW).symm)] at his
    injection his with e1 his
    injection his with e2 e3
    unfold nfZ at e1
    injection e1 with i0 i1 i2 i3 i4 i5 i6 i7 i8 i9 ia ib ic
    subst i0 i1 i2 i3 i4 i5 i6 i7 i8 i9 ia ib ic e2 e3
    obtain rfl : 0 = n' := unhide HN'
    obtain rfl : 0 = nv' := unhide HNv'
    obtain rfl : 0 = nx' := unhide HNx'
    obtain rfl : 0 = ng' := unhide HNg'
    clear HIS HIY
    go_wp2_with fail
    refine bodyPost_ret (v := .tuple #[.agg #[.int .i64 0, .int .i64 0, .int .i64 0, .int .i64 0, .int .i64 0, .bool false, .slice none 0 0, .int .i64 0, .int .i64 0, .int .i64 0, .slice none 0 0, .slice none 0 0, .slice none 0 0], .slice (some ⟨w1b.heap.size, 0, none⟩) 0 0, .int .i64 4]) (by simp [results, Try.results5, go_sem, kzl]) rfl ⟨⟨none, 0, none, 0, none, 0, none, 0, _, [], rfl, ⟨.inl rfl, .inl rfl, .inl rfl, .inl rfl⟩, rfl, mrow_nil _ _ _⟩, ?_⟩
    iterate 13 refine Below.setCell ?_ (by exact Nat.le_succ _) _
    exact unhide BL
  subst hW
  clear HIY BL kzl kzlf
  go_wp2_with fail
  refine (spp id nd tm vt ro cm el wt up a cap n l HN av cv nv lv HNv ax cx nx lx HNx ag cg ng lg HNg hn hnv hnx hng d (unhide HH1) (unhide HB).symm (by rw [← unhide HSD]; exact (unhide HW).symm) id' nd' tm' vt' ro' up' l' cm' el' wt' lv' lx' lg' n' nv' nx' ng' HN' HNv' HNx' HNg' M cc HIS _ ((unhide HRe).below (unhide B1)) ((unhide HRv).below (unhide B1)) ((unhide HRx).below (unhide B1)) ((unhide HRg).below (unhide B1))).mono ?_
  rintro e w2 ⟨eA, eC, vA, vC, xA, xC, gA, gC, vm, L, rfl, ⟨y1, y2, y3, y4⟩, hL, hM, hb⟩
  obtain ⟨am, cm9, hvm, -⟩ := ownZ_rowV hM.row
  subst hvm
  have zl : Hid (w.heap.size + 1 < w1b.heap.size) := (unhide Z1).lt
  have B2 := hide (((unhide B1).trans (hb.mono (unhide B1).size)).alloc (Nat.le_trans (unhide B1).size hb.size) (.cells #[.int .i64 id', .int .i64 nd', .int .i64 tm', .int .i64 vt', .int .i64 ro', .bool up', .slice eA n' eC, .int .i64 cm', .int .i64 el', .int .i64 wt', .slice vA nv' vC, .slice xA nx' xC, .slice gA ng' gC] 29))
  have Z2 := hide (((unhide Z1).below hb).alloc (.cells #[.int .i64 id', .int .i64 nd', .int .i64 tm', .int .i64 vt', .int .i64 ro', .bool up', .slice eA n' eC, .int .i64 cm', .int .i64 el', .int .i64 wt', .slice vA nv' vC, .slice xA nx' xC, .slice gA ng' gC] 29))
  have V2 := hide (BF.new w2 #[.int .i64 id', .int .i64 nd', .int .i64 tm', .int .i64 vt', .int .i64 ro', .bool up', .slice eA n' eC, .int .i64 cm', .int .i64 el', .int .i64 wt', .slice vA nv' vC, .slice xA nx' xC, .slice gA ng' gC] 29)
  have ba : Below w2.heap.size w2 (w2.alloc (.cells #[.int .i64 id', .int .i64 nd', .int .i64 tm', .int .i64 vt', .int .i64 ro', .bool up', .slice eA n' eC, .int .i64 cm', .int .i64 el', .int .i64 wt', .slice vA nv' vC, .slice xA nx' xC, .slice gA ng' gC] 29)) := Go.Joins.below_alloc1 w2 _
  have M2 := hide (hM.below ba)
  have T := hide (sownN id' nd' tm' vt' ro' cm' el' wt' up' eA eC n' l' HN' vA vC nv' lv' HNv' xA xC nx' lx' HNx' gA gC ng' lg' HNg' hn' hnv' hnx' hng' _ (y1.below ba) (y2.below ba) (y3.below ba) (y4.below ba))
  have HLL := hide hL
  have vl : Hid (w1b.heap.size ≤ w2.heap.size) := hb.size
  clear hb hM hL y1 y2 y3 y4 ba B1 A1 Z1 ka kz kzf
  have kv := (unhide V2).S
  have kz := (unhide Z2).S
  have kzf := (unhide Z2).F
  go_wp2_with fail
  refine (unhide T).mono ?_
  clear T
  rintro e w3 ⟨eB, eD, vB, vD, xB, xD, gB, gD, rfl, he, hv, hx, hg, hb3⟩
  have B3 := hide ((unhide B2).trans (hb3.mono (unhide B2).size))
  have Z3 := hide ((unhide Z2).below hb3)
  have M3 := hide ((unhide M2).below hb3)
  obtain ⟨wz, hvz, hFZ, hfz, hbz⟩ := put13 w3 (unhide Z3) (.int .i64 id') (.int .i64 nd') (.int .i64 tm') (.int .i64 vt') (.int .i64 ro') (.bool up') (.slice eB n' eD) (.int .i64 cm') (.int .i64 el') (.int .i64 wt') (.slice vB nv' vD) (.slice xB nx' xD) (.slice gB ng' gD)
  have zq := unhide zl
  have vq := unhide vl
  simp only [World.size_alloc] at he hv hx hg
  have FIN : Hid ((RowV wz eB (cE l') ∧ RowV wz vB (cI lv') ∧ RowV wz xB (cI lx') ∧ RowV wz gB (cI lg')) ∧ MRow wz (.slice am L.length cm9) L ∧ Below w.heap.size w wz) :=
    ⟨⟨rowZ_at (own_farJ he hfz (fun e => by have := (he.lt _ e).1; omega)), rowZ_at (own_farJ hv hfz (fun e => by have := (hv.lt _ e).1; omega)), rowZ_at (own_farJ hx hfz (fun e => by have := (hx.lt _ e).1; omega)), rowZ_at (own_farJ hg hfz (fun e => by have := (hg.lt _ e).1; omega))⟩, ((unhide M3).far hfz zq).read, (unhide B3).trans (hbz.mono (Nat.le_succ _))⟩
  have HVZ := hide hvz
  have kf := hFZ.S
  have HFZ := hide kf
  clear he hv hx hg hb3 M2 M3 B2 B3 Z2 V2 kv kz kzf hfz hbz hFZ kf hvz zq vq
  have kz := (unhide Z3).S
  have kzf := (unhide Z3).F
  go_wp2_with fail
  rw [← unhide HVZ]
  have kf := unhide HFZ
  obtain ⟨f1, f2, f3⟩ := unhide FIN
  refine bodyPost_ret (v := .tuple #[.agg #[.int .i64 id', .int .i64 nd', .int .i64 tm', .int .i64 vt', .int .i64 ro', .bool up', .slice eB n' eD, .int .i64 cm', .int .i64 el', .int .i64 wt', .slice vB nv' vD, .slice xB nx' xD, .slice gB ng' gD], .slice am L.length cm9, .int .i64 cc]) (by simp [results, Try.results5, go_sem, kf]) rfl ⟨⟨eB, eD, vB, vD, xB, xD, gB, gD, _, L, rfl, f1, unhide HLL, f2⟩, f3⟩
end Go.Proofs.Ytpadpgjkpajfaaa
