/- At every argument that can be read, the law FnExactNodeTick returns true and leaves its arguments as they were: no condition. -/
import Derived.Test.YtjlajpnhcphngaaZTkAll
import Derived.Test.YtjlajpnhcphngaaZG48
import Derived.WalkKit
import Derived.ProofKit
import Derived.OpenShut
import Derived.ShutString
import Derived.ChangeOld
import Derived.Below
import Derived.Deep.Strs
import Derived.ChangeMaps5
namespace Go.Proofs.Ytjlajpnhcphngaa
open Go.ChangeShapes Go.WideShapes Go.ChangeAt Go.RowKit
open Go.ChangeMaps (open_string shut_string)
set_option linter.unusedVariables false

theorem own : ownKnob Try.prog.godebug = none := by kernel_rfl
theorem laidOut : laidOutB Try.prog = true := by kernel_rfl
set_option maxHeartbeats 4000000 in
set_option maxRecDepth 100000 in
theorem walk (w : World) (id nd tm vt ro cm el wt : Int) (up : Bool) (a : Option Addr) (n cap : Nat) (l : List (Int × ByteArray)) (ql : l.length = n) (ml : n ≤ maxLen) (sl : ∀ k (h : k < l.length), l[k].2.size ≤ maxLen) (av : Option Addr) (nv cv : Nat) (lv : List Int) (qlv : lv.length = nv) (mlv : nv ≤ maxLen) (ax : Option Addr) (nx cx : Nat) (lx : List Int) (qlx : lx.length = nx) (mlx : nx ≤ maxLen) (ag : Option Addr) (ng cg : Nat) (lg : List Int) (qlg : lg.length = ng) (mlg : ng ≤ maxLen) (x1 : Int) (y1 : (Lit.int .i64 x1).wf = true) (rl : RowV w a (cE l)) (rlv : RowV w av (cI lv)) (rlx : RowV w ax (cI lx)) (rlg : RowV w ag (cI lg)) :
    Calls Try.prog 3 #[.agg #[.int .i64 id, .int .i64 nd, .int .i64 tm, .int .i64 vt, .int .i64 ro, .bool up, .slice a n cap, .int .i64 cm, .int .i64 el, .int .i64 wt, .slice av nv cv, .slice ax nx cx, .slice ag ng cg], .int .i64 x1] w fun e w' => e = .returned (.bool true) ∧ Below w.heap.size w w' := by
  obtain ⟨N9, M, cc, hpr, hb1, hb2, hb3, hb4, hb5, hb6⟩ := tk_ex ⟨id, nd, tm, vt, ro, up, l, cm, el, wt, lv, lx, lg⟩ x1
  obtain ⟨id', nd', tm', vt', ro', up', l', cm', el', wt', lv', lx', lg'⟩ := N9
  simp only at hb1 hb2 hb3 hb4
  obtain ⟨n', hn'⟩ : ∃ q, l'.length = q := ⟨_, rfl⟩
  obtain ⟨nv', hnv'⟩ : ∃ q, lv'.length = q := ⟨_, rfl⟩
  obtain ⟨nx', hnx'⟩ : ∃ q, lx'.length = q := ⟨_, rfl⟩
  obtain ⟨ng', hng'⟩ : ∃ q, lg'.length = q := ⟨_, rfl⟩
  obtain ⟨m', hm'⟩ : ∃ q, M.length = q := ⟨_, rfl⟩
  have HIS := hide hpr
  have HN' := hide hn'
  have HNv' := hide hnv'
  have HNx' := hide hnx'
  have HNg' := hide hng'
  have HNM := hide hm'
  have HB9 : Hid ((n' ≤ l.length ∨ n' ≤ 60) ∧ (nv' ≤ lv.length ∨ nv' ≤ 5) ∧ (nx' ≤ lx.length ∨ nx' ≤ 5) ∧ (ng' ≤ lg.length ∨ ng' ≤ 5) ∧ m' ≤ 5) := ⟨by omega, by omega, by omega, by omega, by omega⟩
  have HB6 := hide hb6
  have nc : (cc != cc) = false := by simp
  obtain ⟨k1, k2, k3, kq, hkk⟩ : ∃ (k1 k2 k3 : Nat) (kq : Int), k1 = 1 + n * 2 ∧ k2 = k1 + nv ∧ k3 = k2 + nx ∧ kq = ((k3 + ng : Nat) : Int) := ⟨_, _, _, _, rfl, rfl, rfl, rfl⟩
  have hk0 : ¬ kq < 0 := by omega
  have HKK := hide hkk
  obtain ⟨j1, j2, j3, jn, hjj⟩ : ∃ (j1 j2 j3 jn : Nat), j1 = 1 + n' * 2 ∧ j2 = j1 + nv' ∧ j3 = j2 + nx' ∧ (jn : Int) = ((j3 + ng' : Nat) : Int) := ⟨_, _, _, _, rfl, rfl, rfl, rfl⟩
  have hj0 : ¬ (jn : Int) < 0 := by omega
  have HJJ := hide hjj
  clear hpr hb1 hb2 hb3 hb4 hb5 hb6 hn' hnv' hnx' hng' hm' hkk hjj
  have HN := hide ql
  have HM := hide ml
  have HR := hide rl
  clear ql ml rl
  have HNv := hide qlv
  have HMv := hide mlv
  have HRv := hide rlv
  clear qlv mlv rlv
  have HNx := hide qlx
  have HMx := hide mlx
  have HRx := hide rlx
  clear qlx mlx rlx
  have HNg := hide qlg
  have HMg := hide mlg
  have HRg := hide rlg
  clear qlg mlg rlg
  have HS := hide sl
  clear sl
  have B_1 := hide (Go.Joins.below_alloc1 w (.cells #[.int .i64 id, .int .i64 nd, .int .i64 tm, .int .i64 vt, .int .i64 ro, .bool up, .slice a n cap, .int .i64 cm, .int .i64 el, .int .i64 wt, .slice av nv cv, .slice ax nx cx, .slice ag ng cg] 25))
  have A_2 := hide (BF.new w #[.int .i64 id, .int .i64 nd, .int .i64 tm, .int .i64 vt, .int .i64 ro, .bool up, .slice a n cap, .int .i64 cm, .int .i64 el, .int .i64 wt, .slice av nv cv, .slice ax nx cx, .slice ag ng cg] 25)
  go_enter Try.func3, Try.ntmps3
  have kA := (unhide A_2).S
  go_wp2_with fail
  refine (szNd id nd tm vt ro cm el wt up a cap n l HN av cv nv lv HNv ax cx nx lx HNx ag cg ng lg HNg 1048576 (Nat.le_refl _) HM HMv HMx HMg HS _ ((unhide HR).below (unhide B_1))).mono ?_
  rintro e w1 ⟨x, rfl, hb1, hx⟩
  clear kA
  have B_3 := hide ((unhide B_1).trans (hb1.mono (unhide B_1).size))
  clear B_1
  have A_4 := hide ((unhide A_2).below hb1)
  clear A_2
  clear hb1
  rcases hx with rfl | ⟨z, rfl, hz, hl, hlv, hlx, hlg, hs⟩
  · go_wp2_with fail
    go_ret
    exact ⟨rfl, (unhide B_3)⟩
  have hzn : ¬ (z : Int) < 0 := by omega
  have HSZ := hide hs
  have HY := hide hz
  clear hs HS hz
  have HL := hide hl
  clear hl HM
  have HLv := hide hlv
  clear hlv HMv
  have HLx := hide hlx
  clear hlx HMx
  have HLg := hide hlg
  clear hlg HMg
  have hKM : 1 + n * 2 + nv + nx + ng ≤ 3000000 := by have := unhide HY; omega
  have HKM := hide hKM
  have hJM : 1 + n' * 2 + nv' + nx' + ng' ≤ 2900000 := by have := unhide HB9; have := unhide HY; have := unhide HN; have := unhide HNv; have := unhide HNx; have := unhide HNg; omega
  have HJM := hide hJM
  have HJM3 : Hid (1 + n' * 2 + nv' + nx' + ng' ≤ 3000000) := by show _ ≤ _; omega
  have HL' : Hid (n' ≤ 1048576 ∧ nv' ≤ 1048576 ∧ nx' ≤ 1048576 ∧ ng' ≤ 1048576 ∧ m' ≤ 1048576) := by show _ ∧ _; have := unhide HB9; have := unhide HL; have := unhide HLv; have := unhide HLx; have := unhide HLg; have := unhide HN; have := unhide HNv; have := unhide HNx; have := unhide HNg; omega
  clear hKM hJM
  have kA := (unhide A_4).S
  go_wp2_with fail
  refine (toNd id nd tm vt ro cm el wt up a cap n l HN av cv nv lv HNv ax cx nx lx HNx ag cg ng lg HNg (unhide HL) (unhide HLv) (unhide HLx) (unhide HLg) _ ((unhide HR).below (unhide B_3)) ((unhide HRv).below (unhide B_3)) ((unhide HRx).below (unhide B_3)) ((unhide HRg).below (unhide B_3))).mono ?_
  rintro e w2 ⟨g2, g2v, g2x, g2g, p2a, p2b, p2c, rfl, o2, o2v, o2x, o2g, q2a, q2b, q2c, hb2⟩
  clear kA
  have B_5 := hide ((unhide B_3).trans (hb2.mono (unhide B_3).size))
  clear B_3
  have A_6 := hide ((unhide A_4).below hb2)
  clear A_4
  clear hb2
  have S_7 := hide (o2)
  have Sv_8 := hide (o2v)
  have Sx_9 := hide (o2x)
  have Sg_10 := hide (o2g)
  clear o2 o2v o2x o2g
  have S2 : Hid (w.heap.size + 1 ≤ w2.heap.size) := (unhide A_6).lt
  go_wp2_with fail
  refine (sntickL id nd tm vt ro cm el wt up _ _ n l HN _ _ nv lv HNv _ _ nx lx HNx _ _ ng lg HNg (unhide HL) (unhide HLv) (unhide HLx) (unhide HLg) HSZ x1 id' nd' tm' vt' ro' up' l' cm' el' wt' lv' lx' lg' n' nv' nx' ng' m' M cc HN' HNv' HNx' HNg' HNM HIS _ (unhide S_7).rowV (unhide Sv_8).rowV (unhide Sx_9).rowV (unhide Sg_10).rowV).mono ?_
  rintro e w3 ⟨⟨aW, cW, avW, cvW, axW, cxW, agW, cgW, amW, cqW, LW, rfl, ⟨yW, yvW, yxW, ygW⟩, hLW, hmW, hMW⟩, hb3⟩
  have z3 : w2.heap.size ≤ w3.heap.size := by have := hb3.size; (try simp at this); omega
  have B_11 := hide ((unhide B_5).trans (hb3.mono (unhide B_5).size))
  clear B_5
  have A_12 := hide ((unhide A_6).below hb3)
  clear A_6
  have S_13 := hide ((unhide S_7).below hb3 (unhide S_7).le)
  clear S_7
  have Sv_14 := hide ((unhide Sv_8).below hb3 (unhide Sv_8).le)
  clear Sv_8
  have Sx_15 := hide ((unhide Sx_9).below hb3 (unhide Sx_9).le)
  clear Sx_9
  have Sg_16 := hide ((unhide Sg_10).below hb3 (unhide Sg_10).le)
  clear Sg_10
  clear hb3
  clear S_13
  clear Sv_14
  clear Sx_15
  clear Sg_16
  have S3 := hide z3
  clear z3
  have WR := hide yW
  clear yW
  have WRv := hide yvW
  clear yvW
  have WRx := hide yxW
  clear yxW
  have WRg := hide ygW
  clear ygW
  have WM := hide hMW
  have WL := hide hLW
  have WN := hide hmW
  clear hMW hLW hmW
  have C_17 := hide (Below.refl w3.heap.size w3)
  have B_18 := hide ((unhide B_11).alloc (unhide B_11).size (.cells #[.int .i64 id', .int .i64 nd', .int .i64 tm', .int .i64 vt', .int .i64 ro', .bool up', .slice aW n' cW, .int .i64 cm', .int .i64 el', .int .i64 wt', .slice avW nv' cvW, .slice axW nx' cxW, .slice agW ng' cgW] 29))
  clear B_11
  have A_19 := hide ((unhide A_12).alloc (.cells #[.int .i64 id', .int .i64 nd', .int .i64 tm', .int .i64 vt', .int .i64 ro', .bool up', .slice aW n' cW, .int .i64 cm', .int .i64 el', .int .i64 wt', .slice avW nv' cvW, .slice axW nx' cxW, .slice agW ng' cgW] 29))
  clear A_12
  have C_20 := hide ((unhide C_17).alloc (unhide C_17).size (.cells #[.int .i64 id', .int .i64 nd', .int .i64 tm', .int .i64 vt', .int .i64 ro', .bool up', .slice aW n' cW, .int .i64 cm', .int .i64 el', .int .i64 wt', .slice avW nv' cvW, .slice axW nx' cxW, .slice agW ng' cgW] 29))
  clear C_17
  have QW_21 := hide (BF.new w3 #[.int .i64 id', .int .i64 nd', .int .i64 tm', .int .i64 vt', .int .i64 ro', .bool up', .slice aW n' cW, .int .i64 cm', .int .i64 el', .int .i64 wt', .slice avW nv' cvW, .slice axW nx' cxW, .slice agW ng' cgW] 29)
  have kA := (unhide A_19).S
  go_wp2_with fail
  refine (toNd id nd tm vt ro cm el wt up a cap n l HN av cv nv lv HNv ax cx nx lx HNx ag cg ng lg HNg (unhide HL) (unhide HLv) (unhide HLx) (unhide HLg) _ ((unhide HR).below (unhide B_18)) ((unhide HRv).below (unhide B_18)) ((unhide HRx).below (unhide B_18)) ((unhide HRg).below (unhide B_18))).mono ?_
  rintro e w4 ⟨g4, g4v, g4x, g4g, p4a, p4b, p4c, rfl, o4, o4v, o4x, o4g, q4a, q4b, q4c, hb4⟩
  clear kA
  have B_22 := hide ((unhide B_18).trans (hb4.mono (unhide B_18).size))
  clear B_18
  have A_23 := hide ((unhide A_19).below hb4)
  clear A_19
  have C_24 := hide ((unhide C_20).trans (hb4.mono (unhide C_20).size))
  clear C_20
  have QW_25 := hide ((unhide QW_21).below hb4)
  clear QW_21
  clear hb4
  have XR_26 := hide (o4)
  have XRv_27 := hide (o4v)
  have XRx_28 := hide (o4x)
  have XRg_29 := hide (o4g)
  clear o4 o4v o4x o4g
  have S4 : Hid (w3.heap.size + 1 ≤ p4a ∧ p4a ≤ p4b ∧ p4b ≤ p4c ∧ p4c ≤ w4.heap.size) := by
    have hq := q4a; simp only [World.size_alloc] at hq; exact ⟨hq, q4b, q4c, (unhide XRg_29).lo_le⟩
  clear q4a q4b q4c
  try simp only [World.size_alloc] at XR_26
  have B_30 := hide ((unhide B_22).alloc (unhide B_22).size (.cells #[.int .i64 id, .int .i64 nd, .int .i64 tm, .int .i64 vt, .int .i64 ro, .bool up, .slice (some ⟨g4, 0, none⟩) n n, .int .i64 cm, .int .i64 el, .int .i64 wt, .slice (some ⟨g4v, 0, none⟩) nv nv, .slice (some ⟨g4x, 0, none⟩) nx nx, .slice (some ⟨g4g, 0, none⟩) ng ng] 29))
  clear B_22
  have A_31 := hide ((unhide A_23).alloc (.cells #[.int .i64 id, .int .i64 nd, .int .i64 tm, .int .i64 vt, .int .i64 ro, .bool up, .slice (some ⟨g4, 0, none⟩) n n, .int .i64 cm, .int .i64 el, .int .i64 wt, .slice (some ⟨g4v, 0, none⟩) nv nv, .slice (some ⟨g4x, 0, none⟩) nx nx, .slice (some ⟨g4g, 0, none⟩) ng ng] 29))
  clear A_23
  have C_32 := hide ((unhide C_24).alloc (unhide C_24).size (.cells #[.int .i64 id, .int .i64 nd, .int .i64 tm, .int .i64 vt, .int .i64 ro, .bool up, .slice (some ⟨g4, 0, none⟩) n n, .int .i64 cm, .int .i64 el, .int .i64 wt, .slice (some ⟨g4v, 0, none⟩) nv nv, .slice (some ⟨g4x, 0, none⟩) nx nx, .slice (some ⟨g4g, 0, none⟩) ng ng] 29))
  clear C_24
  have QW_33 := hide ((unhide QW_25).alloc (.cells #[.int .i64 id, .int .i64 nd, .int .i64 tm, .int .i64 vt, .int .i64 ro, .bool up, .slice (some ⟨g4, 0, none⟩) n n, .int .i64 cm, .int .i64 el, .int .i64 wt, .slice (some ⟨g4v, 0, none⟩) nv nv, .slice (some ⟨g4x, 0, none⟩) nx nx, .slice (some ⟨g4g, 0, none⟩) ng ng] 29))
  clear QW_25
  have XR_34 := hide ((unhide XR_26).below (Go.Joins.below_alloc1 _ (.cells #[.int .i64 id, .int .i64 nd, .int .i64 tm, .int .i64 vt, .int .i64 ro, .bool up, .slice (some ⟨g4, 0, none⟩) n n, .int .i64 cm, .int .i64 el, .int .i64 wt, .slice (some ⟨g4v, 0, none⟩) nv nv, .slice (some ⟨g4x, 0, none⟩) nx nx, .slice (some ⟨g4g, 0, none⟩) ng ng] 29)) (unhide XR_26).le)
  clear XR_26
  have XRv_35 := hide ((unhide XRv_27).below (Go.Joins.below_alloc1 _ (.cells #[.int .i64 id, .int .i64 nd, .int .i64 tm, .int .i64 vt, .int .i64 ro, .bool up, .slice (some ⟨g4, 0, none⟩) n n, .int .i64 cm, .int .i64 el, .int .i64 wt, .slice (some ⟨g4v, 0, none⟩) nv nv, .slice (some ⟨g4x, 0, none⟩) nx nx, .slice (some ⟨g4g, 0, none⟩) ng ng] 29)) (unhide XRv_27).le)
  clear XRv_27
  have XRx_36 := hide ((unhide XRx_28).below (Go.Joins.below_alloc1 _ (.cells #[.int .i64 id, .int .i64 nd, .int .i64 tm, .int .i64 vt, .int .i64 ro, .bool up, .slice (some ⟨g4, 0, none⟩) n n, .int .i64 cm, .int .i64 el, .int .i64 wt, .slice (some ⟨g4v, 0, none⟩) nv nv, .slice (some ⟨g4x, 0, none⟩) nx nx, .slice (some ⟨g4g, 0, none⟩) ng ng] 29)) (unhide XRx_28).le)
  clear XRx_28
  have XRg_37 := hide ((unhide XRg_29).below (Go.Joins.below_alloc1 _ (.cells #[.int .i64 id, .int .i64 nd, .int .i64 tm, .int .i64 vt, .int .i64 ro, .bool up, .slice (some ⟨g4, 0, none⟩) n n, .int .i64 cm, .int .i64 el, .int .i64 wt, .slice (some ⟨g4v, 0, none⟩) nv nv, .slice (some ⟨g4x, 0, none⟩) nx nx, .slice (some ⟨g4g, 0, none⟩) ng ng] 29)) (unhide XRg_29).le)
  clear XRg_29
  have X_38 := hide (BF.new w4 #[.int .i64 id, .int .i64 nd, .int .i64 tm, .int .i64 vt, .int .i64 ro, .bool up, .slice (some ⟨g4, 0, none⟩) n n, .int .i64 cm, .int .i64 el, .int .i64 wt, .slice (some ⟨g4v, 0, none⟩) nv nv, .slice (some ⟨g4x, 0, none⟩) nx nx, .slice (some ⟨g4g, 0, none⟩) ng ng] 29)
  have kX := (unhide X_38).S
  go_wp2_with fail
  refine (intickL id nd tm vt ro cm el wt up _ _ n l HN _ _ nv lv HNv _ _ nx lx HNx _ _ ng lg HNg (unhide HL) (unhide HLv) (unhide HLx) (unhide HLg) HSZ x1 id' nd' tm' vt' ro' up' l' cm' el' wt' lv' lx' lg' n' nv' nx' ng' m' M cc HN' HNv' HNx' HNg' HNM HIS _ (unhide XR_34).rowV (unhide XRv_35).rowV (unhide XRx_36).rowV (unhide XRg_37).rowV).mono ?_
  rintro e w5 ⟨⟨aG, cG, avG, cvG, axG, cxG, agG, cgG, l0G, h0G, l1G, h1G, l2G, h2G, l3G, h3G, amG, cqG, LG, lomG, rfl, ⟨oG0, oG1, oG2, oG3⟩, apG, szG, hLG, hmG, hMG⟩, hb5⟩
  clear kX
  have B_39 := hide ((unhide B_30).trans (hb5.mono (unhide B_30).size))
  clear B_30
  have A_40 := hide ((unhide A_31).below hb5)
  clear A_31
  have C_41 := hide ((unhide C_32).trans (hb5.mono (unhide C_32).size))
  clear C_32
  have QW_42 := hide ((unhide QW_33).below hb5)
  clear QW_33
  have XR_43 := hide ((unhide XR_34).below hb5 (unhide XR_34).le)
  clear XR_34
  have XRv_44 := hide ((unhide XRv_35).below hb5 (unhide XRv_35).le)
  clear XRv_35
  have XRx_45 := hide ((unhide XRx_36).below hb5 (unhide XRx_36).le)
  clear XRx_36
  have XRg_46 := hide ((unhide XRg_37).below hb5 (unhide XRg_37).le)
  clear XRg_37
  have X_47 := hide ((unhide X_38).below hb5)
  clear X_38
  clear hb5
  simp only [World.size_alloc] at apG szG
  have GE_48 := hide (oG0)
  have GV_49 := hide (oG1)
  have GX_50 := hide (oG2)
  have GG_51 := hide (oG3)
  have GM_52 := hide (hMG)
  have APG := hide apG
  have SG : Hid (w4.heap.size + 1 ≤ lomG ∧ lomG ≤ w5.heap.size) := szG
  have GL := hide hLG
  have GN := hide hmG
  have GVB : Hid (∀ j, (Value.slice amG m' cqG).ownBlock = some j → j < w5.heap.size) := fun j hj => (hMG.row.lt j hj).2
  have GEB : Hid (∀ p ∈ LG, ∀ j, (sl p).ownBlock = some j → j < w5.heap.size) := fun p hp j hj => ((hMG.ent p hp).lt j hj).2
  clear oG0 oG1 oG2 oG3 hMG apG szG hLG hmG
  have HLE : Hid (∀ p ∈ LG, p.1.es.length ≤ 1048576) := fun p hp => Nat.le_trans (unhide HB6 p.1 (by rw [← unhide GL]; exact List.mem_map_of_mem hp)) (by decide)
  obtain ⟨qm, hqm⟩ : ∃ q : Int, q = ((kAt jn LG m' : Nat) : Int) := ⟨_, rfl⟩
  have HQM := hide hqm
  have hq0 : ¬ qm < 0 := by omega
  have nqm : (qm != qm) = false := by simp
  have HKT : Hid (kAt jn LG m' ≤ 3000000) := by
    have h1 := kAt_most jn 60 LG (fun p hp => unhide HB6 p.1 (by rw [← unhide GL]; exact List.mem_map_of_mem hp)) m' (by rw [unhide GN]; exact Nat.le_refl _)
    show _ ≤ _; have := unhide HJM; have := unhide HJJ; have := unhide HB9; omega
  clear hqm
  have HJP : Hid (0 < jn) := by show _ < _; have := unhide HJJ; omega
  have B_53 := hide ((unhide B_39).alloc (unhide B_39).size (.cells #[.int .i64 id', .int .i64 nd', .int .i64 tm', .int .i64 vt', .int .i64 ro', .bool up', .slice aG n' cG, .int .i64 cm', .int .i64 el', .int .i64 wt', .slice avG nv' cvG, .slice axG nx' cxG, .slice agG ng' cgG] 29))
  clear B_39
  have A_54 := hide ((unhide A_40).alloc (.cells #[.int .i64 id', .int .i64 nd', .int .i64 tm', .int .i64 vt', .int .i64 ro', .bool up', .slice aG n' cG, .int .i64 cm', .int .i64 el', .int .i64 wt', .slice avG nv' cvG, .slice axG nx' cxG, .slice agG ng' cgG] 29))
  clear A_40
  have C_55 := hide ((unhide C_41).alloc (unhide C_41).size (.cells #[.int .i64 id', .int .i64 nd', .int .i64 tm', .int .i64 vt', .int .i64 ro', .bool up', .slice aG n' cG, .int .i64 cm', .int .i64 el', .int .i64 wt', .slice avG nv' cvG, .slice axG nx' cxG, .slice agG ng' cgG] 29))
  clear C_41
  have QW_56 := hide ((unhide QW_42).alloc (.cells #[.int .i64 id', .int .i64 nd', .int .i64 tm', .int .i64 vt', .int .i64 ro', .bool up', .slice aG n' cG, .int .i64 cm', .int .i64 el', .int .i64 wt', .slice avG nv' cvG, .slice axG nx' cxG, .slice agG ng' cgG] 29))
  clear QW_42
  have XR_57 := hide ((unhide XR_43).below (Go.Joins.below_alloc1 _ (.cells #[.int .i64 id', .int .i64 nd', .int .i64 tm', .int .i64 vt', .int .i64 ro', .bool up', .slice aG n' cG, .int .i64 cm', .int .i64 el', .int .i64 wt', .slice avG nv' cvG, .slice axG nx' cxG, .slice agG ng' cgG] 29)) (unhide XR_43).le)
  clear XR_43
  have XRv_58 := hide ((unhide XRv_44).below (Go.Joins.below_alloc1 _ (.cells #[.int .i64 id', .int .i64 nd', .int .i64 tm', .int .i64 vt', .int .i64 ro', .bool up', .slice aG n' cG, .int .i64 cm', .int .i64 el', .int .i64 wt', .slice avG nv' cvG, .slice axG nx' cxG, .slice agG ng' cgG] 29)) (unhide XRv_44).le)
  clear XRv_44
  have XRx_59 := hide ((unhide XRx_45).below (Go.Joins.below_alloc1 _ (.cells #[.int .i64 id', .int .i64 nd', .int .i64 tm', .int .i64 vt', .int .i64 ro', .bool up', .slice aG n' cG, .int .i64 cm', .int .i64 el', .int .i64 wt', .slice avG nv' cvG, .slice axG nx' cxG, .slice agG ng' cgG] 29)) (unhide XRx_45).le)
  clear XRx_45
  have XRg_60 := hide ((unhide XRg_46).below (Go.Joins.below_alloc1 _ (.cells #[.int .i64 id', .int .i64 nd', .int .i64 tm', .int .i64 vt', .int .i64 ro', .bool up', .slice aG n' cG, .int .i64 cm', .int .i64 el', .int .i64 wt', .slice avG nv' cvG, .slice axG nx' cxG, .slice agG ng' cgG] 29)) (unhide XRg_46).le)
  clear XRg_46
  have X_61 := hide ((unhide X_47).alloc (.cells #[.int .i64 id', .int .i64 nd', .int .i64 tm', .int .i64 vt', .int .i64 ro', .bool up', .slice aG n' cG, .int .i64 cm', .int .i64 el', .int .i64 wt', .slice avG nv' cvG, .slice axG nx' cxG, .slice agG ng' cgG] 29))
  clear X_47
  have GE_62 := hide ((unhide GE_48).below (Go.Joins.below_alloc1 _ (.cells #[.int .i64 id', .int .i64 nd', .int .i64 tm', .int .i64 vt', .int .i64 ro', .bool up', .slice aG n' cG, .int .i64 cm', .int .i64 el', .int .i64 wt', .slice avG nv' cvG, .slice axG nx' cxG, .slice agG ng' cgG] 29)) (unhide GE_48).le)
  clear GE_48
  have GV_63 := hide ((unhide GV_49).below (Go.Joins.below_alloc1 _ (.cells #[.int .i64 id', .int .i64 nd', .int .i64 tm', .int .i64 vt', .int .i64 ro', .bool up', .slice aG n' cG, .int .i64 cm', .int .i64 el', .int .i64 wt', .slice avG nv' cvG, .slice axG nx' cxG, .slice agG ng' cgG] 29)) (unhide GV_49).le)
  clear GV_49
  have GX_64 := hide ((unhide GX_50).below (Go.Joins.below_alloc1 _ (.cells #[.int .i64 id', .int .i64 nd', .int .i64 tm', .int .i64 vt', .int .i64 ro', .bool up', .slice aG n' cG, .int .i64 cm', .int .i64 el', .int .i64 wt', .slice avG nv' cvG, .slice axG nx' cxG, .slice agG ng' cgG] 29)) (unhide GX_50).le)
  clear GX_50
  have GG_65 := hide ((unhide GG_51).below (Go.Joins.below_alloc1 _ (.cells #[.int .i64 id', .int .i64 nd', .int .i64 tm', .int .i64 vt', .int .i64 ro', .bool up', .slice aG n' cG, .int .i64 cm', .int .i64 el', .int .i64 wt', .slice avG nv' cvG, .slice axG nx' cxG, .slice agG ng' cgG] 29)) (unhide GG_51).le)
  clear GG_51
  have GM_66 := hide ((unhide GM_52).below (Go.Joins.below_alloc1 _ (.cells #[.int .i64 id', .int .i64 nd', .int .i64 tm', .int .i64 vt', .int .i64 ro', .bool up', .slice aG n' cG, .int .i64 cm', .int .i64 el', .int .i64 wt', .slice avG nv' cvG, .slice axG nx' cxG, .slice agG ng' cgG] 29)))
  clear GM_52
  have QG_67 := hide (BF.new w5 #[.int .i64 id', .int .i64 nd', .int .i64 tm', .int .i64 vt', .int .i64 ro', .bool up', .slice aG n' cG, .int .i64 cm', .int .i64 el', .int .i64 wt', .slice avG nv' cvG, .slice axG nx' cxG, .slice agG ng' cgG] 29)
  have kQW := (unhide QW_56).S
  have kQG := (unhide QG_67).S
  go_wp2_with fail
  refine (eqNd id' nd' tm' vt' ro' cm' el' wt' up' _ _ _ _ n' l' HN' _ _ _ _ nv' lv' HNv' _ _ _ _ nx' lx' HNx' _ _ _ _ ng' lg' HNg' (unhide HL').1 (unhide HL').2.1 (unhide HL').2.2.1 (unhide HL').2.2.2.1 _ (unhide GE_62).rowV (unhide GV_63).rowV (unhide GX_64).rowV (unhide GG_65).rowV ((unhide WR).below (unhide C_55)) ((unhide WRv).below (unhide C_55)) ((unhide WRx).below (unhide C_55)) ((unhide WRg).below (unhide C_55))).mono ?_
  rintro e w6 ⟨rfl, hb6⟩
  clear kQW kQG
  have B_68 := hide ((unhide B_53).trans (hb6.mono (unhide B_53).size))
  clear B_53
  have A_69 := hide ((unhide A_54).below hb6)
  clear A_54
  have C_70 := hide ((unhide C_55).trans (hb6.mono (unhide C_55).size))
  clear C_55
  have QW_71 := hide ((unhide QW_56).below hb6)
  clear QW_56
  have XR_72 := hide ((unhide XR_57).below hb6 (unhide XR_57).le)
  clear XR_57
  have XRv_73 := hide ((unhide XRv_58).below hb6 (unhide XRv_58).le)
  clear XRv_58
  have XRx_74 := hide ((unhide XRx_59).below hb6 (unhide XRx_59).le)
  clear XRx_59
  have XRg_75 := hide ((unhide XRg_60).below hb6 (unhide XRg_60).le)
  clear XRg_60
  have X_76 := hide ((unhide X_61).below hb6)
  clear X_61
  have GE_77 := hide ((unhide GE_62).below hb6 (unhide GE_62).le)
  clear GE_62
  have GV_78 := hide ((unhide GV_63).below hb6 (unhide GV_63).le)
  clear GV_63
  have GX_79 := hide ((unhide GX_64).below hb6 (unhide GX_64).le)
  clear GX_64
  have GG_80 := hide ((unhide GG_65).below hb6 (unhide GG_65).le)
  clear GG_65
  have GM_81 := hide ((unhide GM_66).below hb6)
  clear GM_66
  have QG_82 := hide ((unhide QG_67).below hb6)
  clear QG_67
  clear hb6
  go_wp2_with fail
  refine (eqMsgs _ _ m' (unhide HL').2.2.2.2 LG LW GN WN (hide ((unhide GL).trans (unhide WL).symm)) HLE _ (unhide GM_81).read ((unhide WM).below (unhide C_70))).mono ?_
  rintro e w7 ⟨rfl, hb7⟩
  have B_83 := hide ((unhide B_68).trans (hb7.mono (unhide B_68).size))
  clear B_68
  have A_84 := hide ((unhide A_69).below hb7)
  clear A_69
  have C_85 := hide ((unhide C_70).trans (hb7.mono (unhide C_70).size))
  clear C_70
  have QW_86 := hide ((unhide QW_71).below hb7)
  clear QW_71
  have XR_87 := hide ((unhide XR_72).below hb7 (unhide XR_72).le)
  clear XR_72
  have XRv_88 := hide ((unhide XRv_73).below hb7 (unhide XRv_73).le)
  clear XRv_73
  have XRx_89 := hide ((unhide XRx_74).below hb7 (unhide XRx_74).le)
  clear XRx_74
  have XRg_90 := hide ((unhide XRg_75).below hb7 (unhide XRg_75).le)
  clear XRg_75
  have X_91 := hide ((unhide X_76).below hb7)
  clear X_76
  have GE_92 := hide ((unhide GE_77).below hb7 (unhide GE_77).le)
  clear GE_77
  have GV_93 := hide ((unhide GV_78).below hb7 (unhide GV_78).le)
  clear GV_78
  have GX_94 := hide ((unhide GX_79).below hb7 (unhide GX_79).le)
  clear GX_79
  have GG_95 := hide ((unhide GG_80).below hb7 (unhide GG_80).le)
  clear GG_80
  have GM_96 := hide ((unhide GM_81).below hb7)
  clear GM_81
  have QG_97 := hide ((unhide QG_82).below hb7)
  clear QG_82
  clear hb7
  have K6 := And.intro (unhide A_84).S (unhide X_91).S
  have HU6 := hide (unhide XR_87).rowV
  have HU6v := hide (unhide XRv_88).rowV
  have HU6x := hide (unhide XRx_89).rowV
  have HU6g := hide (unhide XRg_90).rowV
  have LA : w.heap.size < _ := (unhide A_84).lt
  have LX : w4.heap.size < _ := (unhide X_91).lt
  go_wp2_with fail
  go_region_held3 (fun w' => (∀ o, w'.cell? ⟨w.heap.size, o, none⟩ = (#[.int .i64 id, .int .i64 nd, .int .i64 tm, .int .i64 vt, .int .i64 ro, .bool up, .slice a n cap, .int .i64 cm, .int .i64 el, .int .i64 wt, .slice av nv cv, .slice ax nx cx, .slice ag ng cg] : Array Value)[o]?) ∧ (∀ o, w'.cell? ⟨w4.heap.size, o, none⟩ = (#[.int .i64 id, .int .i64 nd, .int .i64 tm, .int .i64 vt, .int .i64 ro, .bool up, .slice (some ⟨g4, 0, none⟩) n n, .int .i64 cm, .int .i64 el, .int .i64 wt, .slice (some ⟨g4v, 0, none⟩) nv nv, .slice (some ⟨g4x, 0, none⟩) nx nx, .slice (some ⟨g4g, 0, none⟩) ng ng] : Array Value)[o]?)) (first | exact K6 | exact K7 | exact K8) (first | (go_at_call 6; refine (toNd id nd tm vt ro cm el wt up a cap n l HN av cv nv lv HNv ax cx nx lx HNx ag cg ng lg HNg (unhide HL) (unhide HLv) (unhide HLx) (unhide HLg) _ ((unhide HR).below (unhide B_83).drew) ((unhide HRv).below (unhide B_83).drew) ((unhide HRx).below (unhide B_83).drew) ((unhide HRg).below (unhide B_83).drew)).mono ?_; rintro e w8 ⟨g8, g8v, g8x, g8g, p8a, p8b, p8c, rfl, o8, o8v, o8x, o8g, q8a, q8b, q8c, hb8⟩; have K7 := And.intro (fun o => (hb8.cell (p := ⟨w.heap.size, o, none⟩) LA).trans (K6.1 o)) (fun o => (hb8.cell (p := ⟨w4.heap.size, o, none⟩) LX).trans (K6.2 o)); have HO7 := hide (o8).rowV; have HO7v := hide (o8v).rowV; have HO7x := hide (o8x).rowV; have HO7g := hide (o8g).rowV; clear o8 o8v o8x o8g; have HU7 := hide ((unhide HU6).below (below_undrew hb8)); have HU7v := hide ((unhide HU6v).below (below_undrew hb8)); have HU7x := hide ((unhide HU6x).below (below_undrew hb8)); have HU7g := hide ((unhide HU6g).below (below_undrew hb8)); have HT7 := hide (below_undrew hb8); have LA7 := Nat.lt_of_lt_of_le LA (unhide HT7).size; have LX7 := Nat.lt_of_lt_of_le LX (unhide HT7).size; clear hb8) | (go_at_call 8; refine (eqNd id nd tm vt ro cm el wt up _ _ _ _ n l HN _ _ _ _ nv lv HNv _ _ _ _ nx lx HNx _ _ _ _ ng lg HNg (unhide HL) (unhide HLv) (unhide HLx) (unhide HLg) _ (unhide HU7) (unhide HU7v) (unhide HU7x) (unhide HU7g) (unhide HO7) (unhide HO7v) (unhide HO7x) (unhide HO7g)).mono ?_; rintro e w9 ⟨rfl, hb9⟩; have K8 := And.intro (fun o => (hb9.cell (p := ⟨w.heap.size, o, none⟩) LA7).trans (K7.1 o)) (fun o => (hb9.cell (p := ⟨w4.heap.size, o, none⟩) LX7).trans (K7.2 o)); have HT8 := hide ((unhide HT7).trans (hb9.mono (unhide HT7).size)); clear hb9))
  clear K6 K7 K8 HT7 LA LX LA7 LX7 HO7 HU6 HU7 HO7v HU6v HU7v HO7x HU6x HU7x HO7g HU6g HU7g
  have B_98 := hide ((unhide B_83).trans ((unhide HT8).mono (unhide B_83).size))
  clear B_83
  have A_99 := hide ((unhide A_84).below (unhide HT8))
  clear A_84
  have C_100 := hide ((unhide C_85).trans ((unhide HT8).mono (unhide C_85).size))
  clear C_85
  have QW_101 := hide ((unhide QW_86).below (unhide HT8))
  clear QW_86
  have XR_102 := hide ((unhide XR_87).below (unhide HT8) (unhide XR_87).le)
  clear XR_87
  have XRv_103 := hide ((unhide XRv_88).below (unhide HT8) (unhide XRv_88).le)
  clear XRv_88
  have XRx_104 := hide ((unhide XRx_89).below (unhide HT8) (unhide XRx_89).le)
  clear XRx_89
  have XRg_105 := hide ((unhide XRg_90).below (unhide HT8) (unhide XRg_90).le)
  clear XRg_90
  have X_106 := hide ((unhide X_91).below (unhide HT8))
  clear X_91
  have GE_107 := hide ((unhide GE_92).below (unhide HT8) (unhide GE_92).le)
  clear GE_92
  have GV_108 := hide ((unhide GV_93).below (unhide HT8) (unhide GV_93).le)
  clear GV_93
  have GX_109 := hide ((unhide GX_94).below (unhide HT8) (unhide GX_94).le)
  clear GX_94
  have GG_110 := hide ((unhide GG_95).below (unhide HT8) (unhide GG_95).le)
  clear GG_95
  have GM_111 := hide ((unhide GM_96).below (unhide HT8))
  clear GM_96
  have QG_112 := hide ((unhide QG_97).below (unhide HT8))
  clear QG_97
  clear HT8
  have kX := (unhide X_106).S
  go_wp2_with fail
  refine (markNd id nd tm vt ro cm el wt up (some ⟨g4, 0, none⟩) n n (some ⟨g4v, 0, none⟩) nv nv (some ⟨g4x, 0, none⟩) nx nx (some ⟨g4g, 0, none⟩) ng ng _ _ _ _ _ (unhide S4) 1 k1 k2 k3 kq HKK (hide (by decide)) HKM _ _ _ _ _ ⟨(unhide XR_102), (unhide XRv_103), (unhide XRx_104), (unhide XRg_105)⟩).mono ?_
  rintro e w10 ⟨rfl, -, -, -, -, ho10⟩
  clear kX
  have B_113 := hide (Below.outs (unhide B_98) (unhide B_98).size ho10 (by have := unhide S2; have := unhide S3; have := unhide S4; have := unhide SG; have := unhide APG; unfold Apart at *; omega))
  clear B_98
  have A_114 := hide ((unhide A_99).outs ho10 (by have := unhide S2; have := unhide S3; have := unhide S4; have := unhide SG; have := unhide APG; unfold Apart at *; omega))
  clear A_99
  have C_115 := hide (Below.outs (unhide C_100) (unhide C_100).size ho10 (by have := unhide S2; have := unhide S3; have := unhide S4; have := unhide SG; have := unhide APG; unfold Apart at *; omega))
  clear C_100
  have QW_116 := hide ((unhide QW_101).outs ho10 (by have := unhide S2; have := unhide S3; have := unhide S4; have := unhide SG; have := unhide APG; unfold Apart at *; omega))
  clear QW_101
  have X_117 := hide ((unhide X_106).outs ho10 (by have := unhide S2; have := unhide S3; have := unhide S4; have := unhide SG; have := unhide APG; unfold Apart at *; omega))
  clear X_106
  have GE_118 := hide ((unhide GE_107).outs ho10 (by have := unhide S2; have := unhide S3; have := unhide S4; have := unhide SG; have := unhide APG; unfold Apart at *; omega))
  clear GE_107
  have GV_119 := hide ((unhide GV_108).outs ho10 (by have := unhide S2; have := unhide S3; have := unhide S4; have := unhide SG; have := unhide APG; unfold Apart at *; omega))
  clear GV_108
  have GX_120 := hide ((unhide GX_109).outs ho10 (by have := unhide S2; have := unhide S3; have := unhide S4; have := unhide SG; have := unhide APG; unfold Apart at *; omega))
  clear GX_109
  have GG_121 := hide ((unhide GG_110).outs ho10 (by have := unhide S2; have := unhide S3; have := unhide S4; have := unhide SG; have := unhide APG; unfold Apart at *; omega))
  clear GG_110
  have GM_122 := hide ((unhide GM_111).outs ho10 (by have := unhide S2; have := unhide S3; have := unhide S4; have := unhide SG; have := unhide APG; unfold Apart at *; omega))
  clear GM_111
  have QG_123 := hide ((unhide QG_112).outs ho10 (by have := unhide S2; have := unhide S3; have := unhide S4; have := unhide SG; have := unhide APG; unfold Apart at *; omega))
  clear QG_112
  clear ho10
  clear X_117
  have kQW := (unhide QW_116).S
  have kQG := (unhide QG_123).S
  go_wp2_with fail
  refine (eqNd id' nd' tm' vt' ro' cm' el' wt' up' _ _ _ _ n' l' HN' _ _ _ _ nv' lv' HNv' _ _ _ _ nx' lx' HNx' _ _ _ _ ng' lg' HNg' (unhide HL').1 (unhide HL').2.1 (unhide HL').2.2.1 (unhide HL').2.2.2.1 _ (unhide GE_118).rowV (unhide GV_119).rowV (unhide GX_120).rowV (unhide GG_121).rowV ((unhide WR).below (unhide C_115)) ((unhide WRv).below (unhide C_115)) ((unhide WRx).below (unhide C_115)) ((unhide WRg).below (unhide C_115))).mono ?_
  rintro e w11 ⟨rfl, hb11⟩
  clear kQW kQG
  have B_124 := hide ((unhide B_113).trans (hb11.mono (unhide B_113).size))
  clear B_113
  have A_125 := hide ((unhide A_114).below hb11)
  clear A_114
  have C_126 := hide ((unhide C_115).trans (hb11.mono (unhide C_115).size))
  clear C_115
  have QW_127 := hide ((unhide QW_116).below hb11)
  clear QW_116
  have GE_128 := hide ((unhide GE_118).below hb11 (unhide GE_118).le)
  clear GE_118
  have GV_129 := hide ((unhide GV_119).below hb11 (unhide GV_119).le)
  clear GV_119
  have GX_130 := hide ((unhide GX_120).below hb11 (unhide GX_120).le)
  clear GX_120
  have GG_131 := hide ((unhide GG_121).below hb11 (unhide GG_121).le)
  clear GG_121
  have GM_132 := hide ((unhide GM_122).below hb11)
  clear GM_122
  have QG_133 := hide ((unhide QG_123).below hb11)
  clear QG_123
  clear hb11
  go_wp2_with fail
  refine (eqMsgs _ _ m' (unhide HL').2.2.2.2 LG LW GN WN (hide ((unhide GL).trans (unhide WL).symm)) HLE _ (unhide GM_132).read ((unhide WM).below (unhide C_126))).mono ?_
  rintro e w12 ⟨rfl, hb12⟩
  have B_134 := hide ((unhide B_124).trans (hb12.mono (unhide B_124).size))
  clear B_124
  have A_135 := hide ((unhide A_125).below hb12)
  clear A_125
  have C_136 := hide ((unhide C_126).trans (hb12.mono (unhide C_126).size))
  clear C_126
  have QW_137 := hide ((unhide QW_127).below hb12)
  clear QW_127
  have GE_138 := hide ((unhide GE_128).below hb12 (unhide GE_128).le)
  clear GE_128
  have GV_139 := hide ((unhide GV_129).below hb12 (unhide GV_129).le)
  clear GV_129
  have GX_140 := hide ((unhide GX_130).below hb12 (unhide GX_130).le)
  clear GX_130
  have GG_141 := hide ((unhide GG_131).below hb12 (unhide GG_131).le)
  clear GG_131
  have GM_142 := hide ((unhide GM_132).below hb12)
  clear GM_132
  have QG_143 := hide ((unhide QG_133).below hb12)
  clear QG_133
  clear hb12
  have kQG := (unhide QG_143).S
  have lm : lomG ≤ _ := Nat.le_trans (unhide SG).2 (Nat.le_of_lt (unhide QG_143).lt)
  go_wp2_with fail
  refine (markNq id' nd' tm' vt' ro' cm' el' wt' up' aG cG n' avG cvG nv' axG cxG nx' agG cgG ng' (w4.heap.size + 1) lomG l0G h0G l1G h1G l2G h2G l3G h3G (unhide APG) 1 j1 j2 j3 (jn : Int) HJJ (hide (by decide)) HJM3 _ _ _ _ _ lm ⟨(unhide GE_138), (unhide GV_139), (unhide GX_140), (unhide GG_141)⟩).mono ?_
  rintro e w13 ⟨rfl, m0, m1, m2, m3, ho13⟩
  clear kQG
  have B_144 := hide (Below.outs (unhide B_134) (unhide B_134).size ho13 (by have := unhide S2; have := unhide S3; have := unhide S4; have := unhide SG; have := unhide APG; unfold Apart at *; omega))
  clear B_134
  have A_145 := hide ((unhide A_135).outs ho13 (by have := unhide S2; have := unhide S3; have := unhide S4; have := unhide SG; have := unhide APG; unfold Apart at *; omega))
  clear A_135
  have C_146 := hide (Below.outs (unhide C_136) (unhide C_136).size ho13 (by have := unhide S2; have := unhide S3; have := unhide S4; have := unhide SG; have := unhide APG; unfold Apart at *; omega))
  clear C_136
  have QW_147 := hide ((unhide QW_137).outs ho13 (by have := unhide S2; have := unhide S3; have := unhide S4; have := unhide SG; have := unhide APG; unfold Apart at *; omega))
  clear QW_137
  have GM_148 := hide ((unhide GM_142).outs ho13 (by have := unhide S2; have := unhide S3; have := unhide S4; have := unhide SG; have := unhide APG; unfold Apart at *; omega))
  clear GM_142
  have QG_149 := hide ((unhide QG_143).outs ho13 (by have := unhide S2; have := unhide S3; have := unhide S4; have := unhide SG; have := unhide APG; unfold Apart at *; omega))
  clear QG_143
  clear ho13
  clear lm
  have GE_150 := hide (m0)
  clear m0
  have GV_151 := hide (m1)
  clear m1
  have GX_152 := hide (m2)
  clear m2
  have GG_153 := hide (m3)
  clear m3
  go_wp2_with fail
  refine (markMsgs _ m' lomG jn (unhide HL').2.2.2.2 LG GN qm HQM HJP HKT _ (unhide GM_148) w5.heap.size (unhide GVB) (unhide GEB)).mono ?_
  rintro e w14 ⟨rfl, hM14, ho14⟩
  have B_154 := hide (Below.outs (unhide B_144) (unhide B_144).size ho14 (by have := unhide S2; have := unhide S3; have := unhide S4; have := unhide SG; have := unhide APG; unfold Apart at *; omega))
  clear B_144
  have A_155 := hide ((unhide A_145).outs ho14 (by have := unhide S2; have := unhide S3; have := unhide S4; have := unhide SG; have := unhide APG; unfold Apart at *; omega))
  clear A_145
  have C_156 := hide (Below.outs (unhide C_146) (unhide C_146).size ho14 (by have := unhide S2; have := unhide S3; have := unhide S4; have := unhide SG; have := unhide APG; unfold Apart at *; omega))
  clear C_146
  have QW_157 := hide ((unhide QW_147).outs ho14 (by have := unhide S2; have := unhide S3; have := unhide S4; have := unhide SG; have := unhide APG; unfold Apart at *; omega))
  clear QW_147
  have QG_158 := hide ((unhide QG_149).outs ho14 (by have := unhide S2; have := unhide S3; have := unhide S4; have := unhide SG; have := unhide APG; unfold Apart at *; omega))
  clear QG_149
  have GE_159 := hide ((unhide GE_150).outs ho14 (by have := unhide S2; have := unhide S3; have := unhide S4; have := unhide SG; have := unhide APG; unfold Apart at *; omega))
  clear GE_150
  have GV_160 := hide ((unhide GV_151).outs ho14 (by have := unhide S2; have := unhide S3; have := unhide S4; have := unhide SG; have := unhide APG; unfold Apart at *; omega))
  clear GV_151
  have GX_161 := hide ((unhide GX_152).outs ho14 (by have := unhide S2; have := unhide S3; have := unhide S4; have := unhide SG; have := unhide APG; unfold Apart at *; omega))
  clear GX_152
  have GG_162 := hide ((unhide GG_153).outs ho14 (by have := unhide S2; have := unhide S3; have := unhide S4; have := unhide SG; have := unhide APG; unfold Apart at *; omega))
  clear GG_153
  clear ho14
  have GM_163 := hide (hM14)
  clear hM14
  have kQG := (unhide QG_158).S
  have lm : lomG ≤ _ := Nat.le_trans (unhide SG).2 (Nat.le_of_lt (unhide QG_158).lt)
  go_wp2_with fail
  refine (heldNq id' nd' tm' vt' ro' cm' el' wt' up' aG cG n' avG cvG nv' axG cxG nx' agG cgG ng' (w4.heap.size + 1) lomG l0G h0G l1G h1G l2G h2G l3G h3G (unhide APG) 1 j1 j2 j3 (jn : Int) HJJ (hide (by decide)) HJM3 _ lm ⟨(unhide GE_159), (unhide GV_160), (unhide GX_161), (unhide GG_162)⟩).mono ?_
  rintro e w15 ⟨rfl, hb15⟩
  clear kQG
  have B_164 := hide ((unhide B_154).trans (hb15.mono (unhide B_154).size))
  clear B_154
  have A_165 := hide ((unhide A_155).below hb15)
  clear A_155
  have C_166 := hide ((unhide C_156).trans (hb15.mono (unhide C_156).size))
  clear C_156
  have QW_167 := hide ((unhide QW_157).below hb15)
  clear QW_157
  have QG_168 := hide ((unhide QG_158).below hb15)
  clear QG_158
  have GE_169 := hide ((unhide GE_159).below hb15 (unhide GE_159).le)
  clear GE_159
  have GV_170 := hide ((unhide GV_160).below hb15 (unhide GV_160).le)
  clear GV_160
  have GX_171 := hide ((unhide GX_161).below hb15 (unhide GX_161).le)
  clear GX_161
  have GG_172 := hide ((unhide GG_162).below hb15 (unhide GG_162).le)
  clear GG_162
  have GM_173 := hide ((unhide GM_163).below hb15)
  clear GM_163
  clear hb15
  clear lm
  go_wp2_with fail
  refine (heldMsgs _ m' lomG jn (unhide HL').2.2.2.2 LG GN qm HQM HJP HKT _ (unhide GM_173)).mono ?_
  rintro e w16 ⟨rfl, hb16⟩
  have B_174 := hide ((unhide B_164).trans (hb16.mono (unhide B_164).size))
  clear B_164
  have A_175 := hide ((unhide A_165).below hb16)
  clear A_165
  have C_176 := hide ((unhide C_166).trans (hb16.mono (unhide C_166).size))
  clear C_166
  have QW_177 := hide ((unhide QW_167).below hb16)
  clear QW_167
  have QG_178 := hide ((unhide QG_168).below hb16)
  clear QG_168
  have GE_179 := hide ((unhide GE_169).below hb16 (unhide GE_169).le)
  clear GE_169
  have GV_180 := hide ((unhide GV_170).below hb16 (unhide GV_170).le)
  clear GV_170
  have GX_181 := hide ((unhide GX_171).below hb16 (unhide GX_171).le)
  clear GX_171
  have GG_182 := hide ((unhide GG_172).below hb16 (unhide GG_172).le)
  clear GG_172
  have GM_183 := hide ((unhide GM_173).below hb16)
  clear GM_173
  clear hb16
  have kA := (unhide A_175).S
  go_wp2_with fail
  refine (toNd id nd tm vt ro cm el wt up a cap n l HN av cv nv lv HNv ax cx nx lx HNx ag cg ng lg HNg (unhide HL) (unhide HLv) (unhide HLx) (unhide HLg) _ ((unhide HR).below (unhide B_174)) ((unhide HRv).below (unhide B_174)) ((unhide HRx).below (unhide B_174)) ((unhide HRg).below (unhide B_174))).mono ?_
  rintro e w17 ⟨g17, g17v, g17x, g17g, p17a, p17b, p17c, rfl, o17, o17v, o17x, o17g, q17a, q17b, q17c, hb17⟩
  clear kA
  have B_184 := hide ((unhide B_174).trans (hb17.mono (unhide B_174).size))
  clear B_174
  have A_185 := hide ((unhide A_175).below hb17)
  clear A_175
  have C_186 := hide ((unhide C_176).trans (hb17.mono (unhide C_176).size))
  clear C_176
  have QW_187 := hide ((unhide QW_177).below hb17)
  clear QW_177
  have QG_188 := hide ((unhide QG_178).below hb17)
  clear QG_178
  have GE_189 := hide ((unhide GE_179).below hb17 (unhide GE_179).le)
  clear GE_179
  have GV_190 := hide ((unhide GV_180).below hb17 (unhide GV_180).le)
  clear GV_180
  have GX_191 := hide ((unhide GX_181).below hb17 (unhide GX_181).le)
  clear GX_181
  have GG_192 := hide ((unhide GG_182).below hb17 (unhide GG_182).le)
  clear GG_182
  have GM_193 := hide ((unhide GM_183).below hb17)
  clear GM_183
  clear hb17
  have Y_194 := hide (o17)
  have Yv_195 := hide (o17v)
  have Yx_196 := hide (o17x)
  have Yg_197 := hide (o17g)
  clear o17 o17v o17x o17g
  go_wp2_with fail
  refine (intickL id nd tm vt ro cm el wt up _ _ n l HN _ _ nv lv HNv _ _ nx lx HNx _ _ ng lg HNg (unhide HL) (unhide HLv) (unhide HLx) (unhide HLg) HSZ x1 id' nd' tm' vt' ro' up' l' cm' el' wt' lv' lx' lg' n' nv' nx' ng' m' M cc HN' HNv' HNx' HNg' HNM HIS _ (unhide Y_194).rowV (unhide Yv_195).rowV (unhide Yx_196).rowV (unhide Yg_197).rowV).mono ?_
  rintro e w18 ⟨⟨aK, cK, avK, cvK, axK, cxK, agK, cgK, l0K, h0K, l1K, h1K, l2K, h2K, l3K, h3K, amK, cqK, LK, lomK, rfl, ⟨oK0, oK1, oK2, oK3⟩, -, -, hLK, hmK, hMK⟩, hb18⟩
  have B_198 := hide ((unhide B_184).trans (hb18.mono (unhide B_184).size))
  clear B_184
  have A_199 := hide ((unhide A_185).below hb18)
  clear A_185
  have C_200 := hide ((unhide C_186).trans (hb18.mono (unhide C_186).size))
  clear C_186
  have QW_201 := hide ((unhide QW_187).below hb18)
  clear QW_187
  have QG_202 := hide ((unhide QG_188).below hb18)
  clear QG_188
  have GE_203 := hide ((unhide GE_189).below hb18 (unhide GE_189).le)
  clear GE_189
  have GV_204 := hide ((unhide GV_190).below hb18 (unhide GV_190).le)
  clear GV_190
  have GX_205 := hide ((unhide GX_191).below hb18 (unhide GX_191).le)
  clear GX_191
  have GG_206 := hide ((unhide GG_192).below hb18 (unhide GG_192).le)
  clear GG_192
  have GM_207 := hide ((unhide GM_193).below hb18)
  clear GM_193
  have Y_208 := hide ((unhide Y_194).below hb18 (unhide Y_194).le)
  clear Y_194
  have Yv_209 := hide ((unhide Yv_195).below hb18 (unhide Yv_195).le)
  clear Yv_195
  have Yx_210 := hide ((unhide Yx_196).below hb18 (unhide Yx_196).le)
  clear Yx_196
  have Yg_211 := hide ((unhide Yg_197).below hb18 (unhide Yg_197).le)
  clear Yg_197
  clear hb18
  clear Y_208
  clear Yv_209
  clear Yx_210
  clear Yg_211
  have KE_212 := hide (oK0)
  have KV_213 := hide (oK1)
  have KX_214 := hide (oK2)
  have KG_215 := hide (oK3)
  have KM_216 := hide (hMK)
  have KL := hide hLK
  have KN := hide hmK
  clear oK0 oK1 oK2 oK3 hMK hLK hmK
  have HLEK : Hid (∀ p ∈ LK, p.1.es.length ≤ 1048576) := fun p hp => Nat.le_trans (unhide HB6 p.1 (by rw [← unhide KL]; exact List.mem_map_of_mem hp)) (by decide)
  have B_217 := hide ((unhide B_198).alloc (unhide B_198).size (.cells #[.int .i64 id', .int .i64 nd', .int .i64 tm', .int .i64 vt', .int .i64 ro', .bool up', .slice aK n' cK, .int .i64 cm', .int .i64 el', .int .i64 wt', .slice avK nv' cvK, .slice axK nx' cxK, .slice agK ng' cgK] 29))
  clear B_198
  have A_218 := hide ((unhide A_199).alloc (.cells #[.int .i64 id', .int .i64 nd', .int .i64 tm', .int .i64 vt', .int .i64 ro', .bool up', .slice aK n' cK, .int .i64 cm', .int .i64 el', .int .i64 wt', .slice avK nv' cvK, .slice axK nx' cxK, .slice agK ng' cgK] 29))
  clear A_199
  have C_219 := hide ((unhide C_200).alloc (unhide C_200).size (.cells #[.int .i64 id', .int .i64 nd', .int .i64 tm', .int .i64 vt', .int .i64 ro', .bool up', .slice aK n' cK, .int .i64 cm', .int .i64 el', .int .i64 wt', .slice avK nv' cvK, .slice axK nx' cxK, .slice agK ng' cgK] 29))
  clear C_200
  have QW_220 := hide ((unhide QW_201).alloc (.cells #[.int .i64 id', .int .i64 nd', .int .i64 tm', .int .i64 vt', .int .i64 ro', .bool up', .slice aK n' cK, .int .i64 cm', .int .i64 el', .int .i64 wt', .slice avK nv' cvK, .slice axK nx' cxK, .slice agK ng' cgK] 29))
  clear QW_201
  have QG_221 := hide ((unhide QG_202).alloc (.cells #[.int .i64 id', .int .i64 nd', .int .i64 tm', .int .i64 vt', .int .i64 ro', .bool up', .slice aK n' cK, .int .i64 cm', .int .i64 el', .int .i64 wt', .slice avK nv' cvK, .slice axK nx' cxK, .slice agK ng' cgK] 29))
  clear QG_202
  have GE_222 := hide ((unhide GE_203).below (Go.Joins.below_alloc1 _ (.cells #[.int .i64 id', .int .i64 nd', .int .i64 tm', .int .i64 vt', .int .i64 ro', .bool up', .slice aK n' cK, .int .i64 cm', .int .i64 el', .int .i64 wt', .slice avK nv' cvK, .slice axK nx' cxK, .slice agK ng' cgK] 29)) (unhide GE_203).le)
  clear GE_203
  have GV_223 := hide ((unhide GV_204).below (Go.Joins.below_alloc1 _ (.cells #[.int .i64 id', .int .i64 nd', .int .i64 tm', .int .i64 vt', .int .i64 ro', .bool up', .slice aK n' cK, .int .i64 cm', .int .i64 el', .int .i64 wt', .slice avK nv' cvK, .slice axK nx' cxK, .slice agK ng' cgK] 29)) (unhide GV_204).le)
  clear GV_204
  have GX_224 := hide ((unhide GX_205).below (Go.Joins.below_alloc1 _ (.cells #[.int .i64 id', .int .i64 nd', .int .i64 tm', .int .i64 vt', .int .i64 ro', .bool up', .slice aK n' cK, .int .i64 cm', .int .i64 el', .int .i64 wt', .slice avK nv' cvK, .slice axK nx' cxK, .slice agK ng' cgK] 29)) (unhide GX_205).le)
  clear GX_205
  have GG_225 := hide ((unhide GG_206).below (Go.Joins.below_alloc1 _ (.cells #[.int .i64 id', .int .i64 nd', .int .i64 tm', .int .i64 vt', .int .i64 ro', .bool up', .slice aK n' cK, .int .i64 cm', .int .i64 el', .int .i64 wt', .slice avK nv' cvK, .slice axK nx' cxK, .slice agK ng' cgK] 29)) (unhide GG_206).le)
  clear GG_206
  have GM_226 := hide ((unhide GM_207).below (Go.Joins.below_alloc1 _ (.cells #[.int .i64 id', .int .i64 nd', .int .i64 tm', .int .i64 vt', .int .i64 ro', .bool up', .slice aK n' cK, .int .i64 cm', .int .i64 el', .int .i64 wt', .slice avK nv' cvK, .slice axK nx' cxK, .slice agK ng' cgK] 29)))
  clear GM_207
  have KE_227 := hide ((unhide KE_212).below (Go.Joins.below_alloc1 _ (.cells #[.int .i64 id', .int .i64 nd', .int .i64 tm', .int .i64 vt', .int .i64 ro', .bool up', .slice aK n' cK, .int .i64 cm', .int .i64 el', .int .i64 wt', .slice avK nv' cvK, .slice axK nx' cxK, .slice agK ng' cgK] 29)) (unhide KE_212).le)
  clear KE_212
  have KV_228 := hide ((unhide KV_213).below (Go.Joins.below_alloc1 _ (.cells #[.int .i64 id', .int .i64 nd', .int .i64 tm', .int .i64 vt', .int .i64 ro', .bool up', .slice aK n' cK, .int .i64 cm', .int .i64 el', .int .i64 wt', .slice avK nv' cvK, .slice axK nx' cxK, .slice agK ng' cgK] 29)) (unhide KV_213).le)
  clear KV_213
  have KX_229 := hide ((unhide KX_214).below (Go.Joins.below_alloc1 _ (.cells #[.int .i64 id', .int .i64 nd', .int .i64 tm', .int .i64 vt', .int .i64 ro', .bool up', .slice aK n' cK, .int .i64 cm', .int .i64 el', .int .i64 wt', .slice avK nv' cvK, .slice axK nx' cxK, .slice agK ng' cgK] 29)) (unhide KX_214).le)
  clear KX_214
  have KG_230 := hide ((unhide KG_215).below (Go.Joins.below_alloc1 _ (.cells #[.int .i64 id', .int .i64 nd', .int .i64 tm', .int .i64 vt', .int .i64 ro', .bool up', .slice aK n' cK, .int .i64 cm', .int .i64 el', .int .i64 wt', .slice avK nv' cvK, .slice axK nx' cxK, .slice agK ng' cgK] 29)) (unhide KG_215).le)
  clear KG_215
  have KM_231 := hide ((unhide KM_216).below (Go.Joins.below_alloc1 _ (.cells #[.int .i64 id', .int .i64 nd', .int .i64 tm', .int .i64 vt', .int .i64 ro', .bool up', .slice aK n' cK, .int .i64 cm', .int .i64 el', .int .i64 wt', .slice avK nv' cvK, .slice axK nx' cxK, .slice agK ng' cgK] 29)))
  clear KM_216
  have QK_232 := hide (BF.new w18 #[.int .i64 id', .int .i64 nd', .int .i64 tm', .int .i64 vt', .int .i64 ro', .bool up', .slice aK n' cK, .int .i64 cm', .int .i64 el', .int .i64 wt', .slice avK nv' cvK, .slice axK nx' cxK, .slice agK ng' cgK] 29)
  have kQW := (unhide QW_220).S
  have kQK := (unhide QK_232).S
  go_wp2_with fail
  refine (eqNd id' nd' tm' vt' ro' cm' el' wt' up' _ _ _ _ n' l' HN' _ _ _ _ nv' lv' HNv' _ _ _ _ nx' lx' HNx' _ _ _ _ ng' lg' HNg' (unhide HL').1 (unhide HL').2.1 (unhide HL').2.2.1 (unhide HL').2.2.2.1 _ (unhide KE_227).rowV (unhide KV_228).rowV (unhide KX_229).rowV (unhide KG_230).rowV ((unhide WR).below (unhide C_219)) ((unhide WRv).below (unhide C_219)) ((unhide WRx).below (unhide C_219)) ((unhide WRg).below (unhide C_219))).mono ?_
  rintro e w19 ⟨rfl, hb19⟩
  clear kQW kQK
  have B_233 := hide ((unhide B_217).trans (hb19.mono (unhide B_217).size))
  clear B_217
  have A_234 := hide ((unhide A_218).below hb19)
  clear A_218
  have C_235 := hide ((unhide C_219).trans (hb19.mono (unhide C_219).size))
  clear C_219
  have QW_236 := hide ((unhide QW_220).below hb19)
  clear QW_220
  have QG_237 := hide ((unhide QG_221).below hb19)
  clear QG_221
  have GE_238 := hide ((unhide GE_222).below hb19 (unhide GE_222).le)
  clear GE_222
  have GV_239 := hide ((unhide GV_223).below hb19 (unhide GV_223).le)
  clear GV_223
  have GX_240 := hide ((unhide GX_224).below hb19 (unhide GX_224).le)
  clear GX_224
  have GG_241 := hide ((unhide GG_225).below hb19 (unhide GG_225).le)
  clear GG_225
  have GM_242 := hide ((unhide GM_226).below hb19)
  clear GM_226
  have KE_243 := hide ((unhide KE_227).below hb19 (unhide KE_227).le)
  clear KE_227
  have KV_244 := hide ((unhide KV_228).below hb19 (unhide KV_228).le)
  clear KV_228
  have KX_245 := hide ((unhide KX_229).below hb19 (unhide KX_229).le)
  clear KX_229
  have KG_246 := hide ((unhide KG_230).below hb19 (unhide KG_230).le)
  clear KG_230
  have KM_247 := hide ((unhide KM_231).below hb19)
  clear KM_231
  have QK_248 := hide ((unhide QK_232).below hb19)
  clear QK_232
  clear hb19
  go_wp2_with fail
  refine (eqMsgs _ _ m' (unhide HL').2.2.2.2 LK LW KN WN (hide ((unhide KL).trans (unhide WL).symm)) HLEK _ (unhide KM_247).read ((unhide WM).below (unhide C_235))).mono ?_
  rintro e w20 ⟨rfl, hb20⟩
  have B_249 := hide ((unhide B_233).trans (hb20.mono (unhide B_233).size))
  clear B_233
  have A_250 := hide ((unhide A_234).below hb20)
  clear A_234
  have C_251 := hide ((unhide C_235).trans (hb20.mono (unhide C_235).size))
  clear C_235
  have QW_252 := hide ((unhide QW_236).below hb20)
  clear QW_236
  have QG_253 := hide ((unhide QG_237).below hb20)
  clear QG_237
  have GE_254 := hide ((unhide GE_238).below hb20 (unhide GE_238).le)
  clear GE_238
  have GV_255 := hide ((unhide GV_239).below hb20 (unhide GV_239).le)
  clear GV_239
  have GX_256 := hide ((unhide GX_240).below hb20 (unhide GX_240).le)
  clear GX_240
  have GG_257 := hide ((unhide GG_241).below hb20 (unhide GG_241).le)
  clear GG_241
  have GM_258 := hide ((unhide GM_242).below hb20)
  clear GM_242
  have KE_259 := hide ((unhide KE_243).below hb20 (unhide KE_243).le)
  clear KE_243
  have KV_260 := hide ((unhide KV_244).below hb20 (unhide KV_244).le)
  clear KV_244
  have KX_261 := hide ((unhide KX_245).below hb20 (unhide KX_245).le)
  clear KX_245
  have KG_262 := hide ((unhide KG_246).below hb20 (unhide KG_246).le)
  clear KG_246
  have KM_263 := hide ((unhide KM_247).below hb20)
  clear KM_247
  have QK_264 := hide ((unhide QK_248).below hb20)
  clear QK_248
  clear hb20
  have kQG := (unhide QG_253).S
  have lm : lomG ≤ _ := Nat.le_trans (unhide SG).2 (Nat.le_of_lt (unhide QG_253).lt)
  go_wp2_with fail
  refine (heldNq id' nd' tm' vt' ro' cm' el' wt' up' aG cG n' avG cvG nv' axG cxG nx' agG cgG ng' (w4.heap.size + 1) lomG l0G h0G l1G h1G l2G h2G l3G h3G (unhide APG) 1 j1 j2 j3 (jn : Int) HJJ (hide (by decide)) HJM3 _ lm ⟨(unhide GE_254), (unhide GV_255), (unhide GX_256), (unhide GG_257)⟩).mono ?_
  rintro e w21 ⟨rfl, hb21⟩
  clear kQG
  have B_265 := hide ((unhide B_249).trans (hb21.mono (unhide B_249).size))
  clear B_249
  have A_266 := hide ((unhide A_250).below hb21)
  clear A_250
  have C_267 := hide ((unhide C_251).trans (hb21.mono (unhide C_251).size))
  clear C_251
  have QW_268 := hide ((unhide QW_252).below hb21)
  clear QW_252
  have QG_269 := hide ((unhide QG_253).below hb21)
  clear QG_253
  have GE_270 := hide ((unhide GE_254).below hb21 (unhide GE_254).le)
  clear GE_254
  have GV_271 := hide ((unhide GV_255).below hb21 (unhide GV_255).le)
  clear GV_255
  have GX_272 := hide ((unhide GX_256).below hb21 (unhide GX_256).le)
  clear GX_256
  have GG_273 := hide ((unhide GG_257).below hb21 (unhide GG_257).le)
  clear GG_257
  have GM_274 := hide ((unhide GM_258).below hb21)
  clear GM_258
  have KE_275 := hide ((unhide KE_259).below hb21 (unhide KE_259).le)
  clear KE_259
  have KV_276 := hide ((unhide KV_260).below hb21 (unhide KV_260).le)
  clear KV_260
  have KX_277 := hide ((unhide KX_261).below hb21 (unhide KX_261).le)
  clear KX_261
  have KG_278 := hide ((unhide KG_262).below hb21 (unhide KG_262).le)
  clear KG_262
  have KM_279 := hide ((unhide KM_263).below hb21)
  clear KM_263
  have QK_280 := hide ((unhide QK_264).below hb21)
  clear QK_264
  clear hb21
  clear lm
  go_wp2_with fail
  refine (heldMsgs _ m' lomG jn (unhide HL').2.2.2.2 LG GN qm HQM HJP HKT _ (unhide GM_274)).mono ?_
  rintro e w22 ⟨rfl, hb22⟩
  have B_281 := hide ((unhide B_265).trans (hb22.mono (unhide B_265).size))
  clear B_265
  have A_282 := hide ((unhide A_266).below hb22)
  clear A_266
  have C_283 := hide ((unhide C_267).trans (hb22.mono (unhide C_267).size))
  clear C_267
  have QW_284 := hide ((unhide QW_268).below hb22)
  clear QW_268
  have QG_285 := hide ((unhide QG_269).below hb22)
  clear QG_269
  have GE_286 := hide ((unhide GE_270).below hb22 (unhide GE_270).le)
  clear GE_270
  have GV_287 := hide ((unhide GV_271).below hb22 (unhide GV_271).le)
  clear GV_271
  have GX_288 := hide ((unhide GX_272).below hb22 (unhide GX_272).le)
  clear GX_272
  have GG_289 := hide ((unhide GG_273).below hb22 (unhide GG_273).le)
  clear GG_273
  have GM_290 := hide ((unhide GM_274).below hb22)
  clear GM_274
  have KE_291 := hide ((unhide KE_275).below hb22 (unhide KE_275).le)
  clear KE_275
  have KV_292 := hide ((unhide KV_276).below hb22 (unhide KV_276).le)
  clear KV_276
  have KX_293 := hide ((unhide KX_277).below hb22 (unhide KX_277).le)
  clear KX_277
  have KG_294 := hide ((unhide KG_278).below hb22 (unhide KG_278).le)
  clear KG_278
  have KM_295 := hide ((unhide KM_279).below hb22)
  clear KM_279
  have QK_296 := hide ((unhide QK_280).below hb22)
  clear QK_280
  clear hb22
  go_wp2_with fail
  go_ret
  exact ⟨rfl, (unhide B_281)⟩

set_option maxRecDepth 100000 in
theorem lifted (os : Os) (started : os.Started) (H : Type) (enc : TypeId × Value → H) :
    ReturnsInHanded {} Try.checked os 3 .any (Rows.fnExactNodeTickSpec.pre6 enc Try.prog Try.f3 Rows.fnExactNodeTickRow.domain false) (Rows.fnExactNodeTickSpec.post enc Try.prog Try.f3 false true false false) := by
  refine returnsInHanded_of_change (C := Try.checked) own started (by kernel_rfl) Try.func3
    (ChangeSpec.witness6 (enc := enc) (C := Try.checked) false ⟨#[], #[.agg #[.int .i64 0, .int .i64 0, .int .i64 0, .int .i64 0, .int .i64 0, .bool false, .slice none 0 0, .int .i64 0, .int .i64 0, .int .i64 0, .slice none 0 0, .slice none 0 0, .slice none 0 0], .int .i64 0], []⟩ 8 (by kernel_rfl) (by kernel_rfl) (by kernel_rfl) (by kernel_rfl)) ?_
  intro W base args ds gs before hval0 hW hcnd _
  have hval : ∀ (j : Nat) t v, Try.f3.params[j]? = some t → args[j]? = some v → Value.okWide Try.prog W .any base t v := hval0
  have hW' := hW
  obtain ⟨p, q, hA0, hV, rfl, hfz, hnd⟩ := hW
  have hA : DataW.TrodAll enc Try.prog W 0 (fun _ => true) true Try.f3.params.toList args.toList ds p := hA0
  rw [Try.params3] at hA hval
  obtain ⟨v0, vs0, d_0, ds0, p0, q0, hargs, rfl, rfl, h0, r0⟩ := trodAll_cons hA
  obtain ⟨v1, vs1, d_1, ds1, p1, q1, rfl, rfl, rfl, h1, r1⟩ := trodAll_cons r0
  obtain ⟨rfl, rfl, rfl⟩ := trodAll_nil r1
  obtain rfl : args = #[v0, v1] := by cases args; simp_all
  obtain ⟨rfl, rfl⟩ := trodVars_none hV
  have k0 := h0
  have lt0 : ∀ x ∈ p0, x.block < W.heap.size := by obtain ⟨m, hm⟩ := k0; exact DataW.trod_lt m _ _ _ hm
  have k1 := h1
  have lt1 : ∀ x ∈ p1, x.block < W.heap.size := by obtain ⟨m, hm⟩ := k1; exact DataW.trod_lt m _ _ _ hm
  obtain ⟨c0_0, c0_1, c0_2, c0_3, c0_4, c0_5, c0_6, c0_7, c0_8, c0_9, c0_10, c0_11, c0_12, u0_0, u0_1, u0_2, u0_3, u0_4, u0_5, u0_6, u0_7, u0_8, u0_9, u0_10, u0_11, u0_12, n0, rfl, z0_0, z0_1, z0_2, z0_3, z0_4, z0_5, z0_6, z0_7, z0_8, z0_9, z0_10, z0_11, z0_12⟩ := open_agg13 Try.underlying25 (by kernel_rfl) (by kernel_rfl) (hval 0 25 v0 rfl rfl) h0
  obtain ⟨id, e0_0, -, -⟩ := DataW.trod_int Try.underlying3 z0_0
  obtain rfl : c0_0 = .int .i64 id := by simpa using e0_0
  obtain ⟨nd, e0_1, -, -⟩ := DataW.trod_int Try.underlying3 z0_1
  obtain rfl : c0_1 = .int .i64 nd := by simpa using e0_1
  obtain ⟨tm, e0_2, -, -⟩ := DataW.trod_int Try.underlying3 z0_2
  obtain rfl : c0_2 = .int .i64 tm := by simpa using e0_2
  obtain ⟨vt, e0_3, -, -⟩ := DataW.trod_int Try.underlying3 z0_3
  obtain rfl : c0_3 = .int .i64 vt := by simpa using e0_3
  obtain ⟨ro, e0_4, -, -⟩ := DataW.trod_int Try.underlying3 z0_4
  obtain rfl : c0_4 = .int .i64 ro := by simpa using e0_4
  obtain ⟨up, e0_5, -⟩ := DataW.trod_bool Try.underlying4 z0_5
  obtain rfl : c0_5 = .bool up := by simpa using e0_5
  obtain ⟨a, n, cap, l, rfl, el_, ml_, sl, rl_⟩ := entries_field Try.underlying22 Try.underlying58 (by kernel_rfl) rfl rfl (by kernel_rfl) (by kernel_rfl) Try.underlying3 Try.underlying9 z0_6
  obtain ⟨cm, e0_7, -, -⟩ := DataW.trod_int Try.underlying3 z0_7
  obtain rfl : c0_7 = .int .i64 cm := by simpa using e0_7
  obtain ⟨el, e0_8, -, -⟩ := DataW.trod_int Try.underlying3 z0_8
  obtain rfl : c0_8 = .int .i64 el := by simpa using e0_8
  obtain ⟨wt, e0_9, -, -⟩ := DataW.trod_int Try.underlying3 z0_9
  obtain rfl : c0_9 = .int .i64 wt := by simpa using e0_9
  obtain ⟨av, nv, cv, lv, rfl, el_v, ml_v, rl_v⟩ := ints_field Try.underlying23 Try.underlying3 (by kernel_rfl) z0_10
  obtain ⟨ax, nx, cx, lx, rfl, el_x, ml_x, rl_x⟩ := ints_field Try.underlying23 Try.underlying3 (by kernel_rfl) z0_11
  obtain ⟨ag, ng, cg, lg, rfl, el_g, ml_g, rl_g⟩ := ints_field Try.underlying23 Try.underlying3 (by kernel_rfl) z0_12
  obtain ⟨x1, rfl, rfl, rfl, y1⟩ := open_int Try.underlying3 (hval 1 3 v1 rfl rfl) h1
  clear hA0 hval0
  refine (walk W id nd tm vt ro cm el wt up a n cap l el_ ml_ sl av nv cv lv el_v ml_v ax nx cx lx el_x ml_x ag ng cg lg el_g ml_g x1 y1 rl_ rl_v rl_x rl_g).mono fun e W' ⟨he, bel⟩ => ?_
  subst he
  exact ⟨_, rfl, _, _, _, [], _, [], hW', trodAll_mk1 (shut_bool Try.underlying4 _), (trodAll_cons_mk (Below.trod laidOut (by kernel_rfl) (of_decide_eq_true (by kernel_rfl)) k0 bel lt0) (trodAll_cons_mk (Below.trod laidOut (by kernel_rfl) (of_decide_eq_true (by kernel_rfl)) k1 bel lt1) trodAll_mk0)), rfl, bel.frame _, fun h => by cases h⟩

theorem over : Rows.fnExactNodeTickRow.holds Try.pinned (OpenSpec.ofChange Rows.fnExactNodeTickSpec) :=
  OpenClaim.holds_of_wide 3 Try.f3 rfl rfl rfl rfl rfl rfl rfl ⟨rfl, rfl, rfl, rfl, rfl⟩ rfl rfl rfl rfl rfl (by kernel_rfl) Try.func3 (by kernel_rfl)
    (of_decide_eq_true (by kernel_rfl)) (by unfold Func.isWrapper; first | (rw [if_pos (by decide +kernel)]; kernel_rfl) | (rw [if_neg (by decide +kernel)]; exact ⟨rfl, rfl⟩))
    (fun os started H enc _ => lifted os started H enc)

theorem proved : Rows.FnExactNodeTickSaid := over
#print axioms proved
end Go.Proofs.Ytjlajpnhcphngaa
