/- At every argument that can be read, the law FnExactUpToDate returns true and leaves its arguments as they were: no condition. -/
import Derived.Test.YtejedkkpllfpeaaUtAll
import Derived.Test.YtejedkkpllfpeaaAgg13
import Derived.Test.YtejedkkpllfpeaaEntO
import Derived.Test.YtejedkkpllfpeaaIntO
import Derived.WalkKit
import Derived.ProofKit
import Derived.OpenShut
import Derived.ShutString
import Derived.ChangeOld
import Derived.Below
import Derived.Deep.Strs
namespace Go.Proofs.Ytejedkkpllfpeaa
open Go.ChangeShapes Go.WideShapes Go.ChangeAt Go.RowKit
set_option linter.unusedVariables false

theorem own : ownKnob Try.prog.godebug = none := by kernel_rfl
theorem laidOut : laidOutB Try.prog = true := by kernel_rfl
set_option maxHeartbeats 4000000 in
set_option maxRecDepth 100000 in
theorem walk (w : World) (id nd tm vt ro cm el wt : Int) (up : Bool) (a : Option Addr) (n cap : Nat) (l : List (Int × ByteArray)) (ql : l.length = n) (ml : n ≤ maxLen) (sl : ∀ k (h : k < l.length), l[k].2.size ≤ maxLen) (av : Option Addr) (nv cv : Nat) (lv : List Int) (qlv : lv.length = nv) (mlv : nv ≤ maxLen) (ax : Option Addr) (nx cx : Nat) (lx : List Int) (qlx : lx.length = nx) (mlx : nx ≤ maxLen) (ag : Option Addr) (ng cg : Nat) (lg : List Int) (qlg : lg.length = ng) (mlg : ng ≤ maxLen) (x1 : Int) (y1 : (Lit.int .i64 x1).wf = true) (x2 : Int) (y2 : (Lit.int .i64 x2).wf = true) (rl : RowV w a (cE l)) (rlv : RowV w av (cI lv)) (rlx : RowV w ax (cI lx)) (rlg : RowV w ag (cI lg)) :
    Calls Try.prog 3 #[.agg #[.int .i64 id, .int .i64 nd, .int .i64 tm, .int .i64 vt, .int .i64 ro, .bool up, .slice a n cap, .int .i64 cm, .int .i64 el, .int .i64 wt, .slice av nv cv, .slice ax nx cx, .slice ag ng cg], .int .i64 x1, .int .i64 x2] w fun e w' => e = .returned (.bool true) ∧ Below w.heap.size w w' := by
  obtain ⟨R, hR⟩ : ∃ R, R = nodeB id nd tm vt ro cm el wt up l lv lx lg := ⟨_, rfl⟩
  have HRR := hide hR
  obtain ⟨TT, hT⟩ : ∃ T, T = tAt l n := ⟨_, rfl⟩
  have HT := hide hT
  obtain ⟨U, hU⟩ : ∃ U, U = (R && utB (n : Int) TT x1 x2) := ⟨_, rfl⟩
  obtain ⟨c, hc⟩ : ∃ c : Int, c = if R then 0 else 1 := ⟨_, rfl⟩
  have HU := hide (And.intro hU hc)
  have nU : (U != U) = false := by simp
  have nc : (c != c) = false := by simp
  clear hR hT hU hc
  have HN := hide ql
  have HM := hide ml
  have HR := hide rl
  clear ql ml rl
  have HNv := hide qlv
  have HMv := hide mlv
  have HRv := hide rlv
  clear qlv mlv rlv
  have HNx := hide qlx
  have HMx := hide mlx
  have HRx := hide rlx
  clear qlx mlx rlx
  have HNg := hide qlg
  have HMg := hide mlg
  have HRg := hide rlg
  clear qlg mlg rlg
  have HS := hide sl
  clear sl
  have B_1 := hide (Go.Joins.below_alloc1 w (.cells #[.int .i64 id, .int .i64 nd, .int .i64 tm, .int .i64 vt, .int .i64 ro, .bool up, .slice a n cap, .int .i64 cm, .int .i64 el, .int .i64 wt, .slice av nv cv, .slice ax nx cx, .slice ag ng cg] 25))
  have A_2 := hide (BF.new w #[.int .i64 id, .int .i64 nd, .int .i64 tm, .int .i64 vt, .int .i64 ro, .bool up, .slice a n cap, .int .i64 cm, .int .i64 el, .int .i64 wt, .slice av nv cv, .slice ax nx cx, .slice ag ng cg] 25)
  go_enter Try.func3, Try.ntmps3
  have kA := (unhide A_2).S
  go_wp2_with fail
  refine (szNd id nd tm vt ro cm el wt up a cap n l HN av cv nv lv HNv ax cx nx lx HNx ag cg ng lg HNg 1048576 (Nat.le_refl _) HM HMv HMx HMg HS _ ((unhide HR).below (unhide B_1))).mono ?_
  rintro e w1 ⟨x, rfl, hb1, hx⟩
  clear kA
  have B_3 := hide ((unhide B_1).trans (hb1.mono (unhide B_1).size))
  clear B_1
  have A_4 := hide ((unhide A_2).below hb1)
  clear A_2
  clear hb1
  rcases hx with rfl | ⟨z, rfl, hz, hl, hlv, hlx, hlg, hs⟩
  · go_wp2_with fail
    go_ret
    exact ⟨rfl, (unhide B_3)⟩
  have hzn : ¬ (z : Int) < 0 := by omega
  have HSZ := hide hs
  have HY := hide hz
  clear hs HS hz
  have HL := hide hl
  clear hl HM
  have HLv := hide hlv
  clear hlv HMv
  have HLx := hide hlx
  clear hlx HMx
  have HLg := hide hlg
  clear hlg HMg
  have kA := (unhide A_4).S
  go_wp2_with fail
  refine (toNd id nd tm vt ro cm el wt up a cap n l HN av cv nv lv HNv ax cx nx lx HNx ag cg ng lg HNg (unhide HL) (unhide HLv) (unhide HLx) (unhide HLg) _ ((unhide HR).below (unhide B_3)) ((unhide HRv).below (unhide B_3)) ((unhide HRx).below (unhide B_3)) ((unhide HRg).below (unhide B_3))).mono ?_
  rintro e w2 ⟨g2, g2v, g2x, g2g, p2a, p2b, p2c, rfl, o2, o2v, o2x, o2g, q2a, q2b, q2c, hb2⟩
  clear kA
  have B_5 := hide ((unhide B_3).trans (hb2.mono (unhide B_3).size))
  clear B_3
  have A_6 := hide ((unhide A_4).below hb2)
  clear A_4
  clear hb2
  have S_7 := hide (o2)
  have Sv_8 := hide (o2v)
  have Sx_9 := hide (o2x)
  have Sg_10 := hide (o2g)
  clear o2 o2v o2x o2g
  go_wp2_with fail
  refine (supto id nd tm vt ro cm el wt up _ _ n l HN _ _ nv lv HNv _ _ nx lx HNx _ _ ng lg HNg (unhide HL) (unhide HLv) (unhide HLx) (unhide HLg) HSZ R HRR x1 x2 TT HT U c HU _ (unhide S_7).rowV (unhide Sv_8).rowV (unhide Sx_9).rowV (unhide Sg_10).rowV).mono ?_
  rintro e w3 ⟨rfl, hb3⟩
  have B_11 := hide ((unhide B_5).trans (hb3.mono (unhide B_5).size))
  clear B_5
  have A_12 := hide ((unhide A_6).below hb3)
  clear A_6
  have S_13 := hide ((unhide S_7).below hb3 (unhide S_7).le)
  clear S_7
  have Sv_14 := hide ((unhide Sv_8).below hb3 (unhide Sv_8).le)
  clear Sv_8
  have Sx_15 := hide ((unhide Sx_9).below hb3 (unhide Sx_9).le)
  clear Sx_9
  have Sg_16 := hide ((unhide Sg_10).below hb3 (unhide Sg_10).le)
  clear Sg_10
  clear hb3
  clear S_13
  clear Sv_14
  clear Sx_15
  clear Sg_16
  have kA := (unhide A_12).S
  go_wp2_with fail
  refine (toNd id nd tm vt ro cm el wt up a cap n l HN av cv nv lv HNv ax cx nx lx HNx ag cg ng lg HNg (unhide HL) (unhide HLv) (unhide HLx) (unhide HLg) _ ((unhide HR).below (unhide B_11)) ((unhide HRv).below (unhide B_11)) ((unhide HRx).below (unhide B_11)) ((unhide HRg).below (unhide B_11))).mono ?_
  rintro e w4 ⟨g4, g4v, g4x, g4g, p4a, p4b, p4c, rfl, o4, o4v, o4x, o4g, q4a, q4b, q4c, hb4⟩
  clear kA
  have B_17 := hide ((unhide B_11).trans (hb4.mono (unhide B_11).size))
  clear B_11
  have A_18 := hide ((unhide A_12).below hb4)
  clear A_12
  clear hb4
  have XR_19 := hide (o4)
  have XRv_20 := hide (o4v)
  have XRx_21 := hide (o4x)
  have XRg_22 := hide (o4g)
  clear o4 o4v o4x o4g
  have B_23 := hide ((unhide B_17).alloc (unhide B_17).size (.cells #[.int .i64 id, .int .i64 nd, .int .i64 tm, .int .i64 vt, .int .i64 ro, .bool up, .slice (some ⟨g4, 0, none⟩) n n, .int .i64 cm, .int .i64 el, .int .i64 wt, .slice (some ⟨g4v, 0, none⟩) nv nv, .slice (some ⟨g4x, 0, none⟩) nx nx, .slice (some ⟨g4g, 0, none⟩) ng ng] 31))
  clear B_17
  have A_24 := hide ((unhide A_18).alloc (.cells #[.int .i64 id, .int .i64 nd, .int .i64 tm, .int .i64 vt, .int .i64 ro, .bool up, .slice (some ⟨g4, 0, none⟩) n n, .int .i64 cm, .int .i64 el, .int .i64 wt, .slice (some ⟨g4v, 0, none⟩) nv nv, .slice (some ⟨g4x, 0, none⟩) nx nx, .slice (some ⟨g4g, 0, none⟩) ng ng] 31))
  clear A_18
  have XR_25 := hide ((unhide XR_19).below (Go.Joins.below_alloc1 _ (.cells #[.int .i64 id, .int .i64 nd, .int .i64 tm, .int .i64 vt, .int .i64 ro, .bool up, .slice (some ⟨g4, 0, none⟩) n n, .int .i64 cm, .int .i64 el, .int .i64 wt, .slice (some ⟨g4v, 0, none⟩) nv nv, .slice (some ⟨g4x, 0, none⟩) nx nx, .slice (some ⟨g4g, 0, none⟩) ng ng] 31)) (unhide XR_19).le)
  clear XR_19
  have XRv_26 := hide ((unhide XRv_20).below (Go.Joins.below_alloc1 _ (.cells #[.int .i64 id, .int .i64 nd, .int .i64 tm, .int .i64 vt, .int .i64 ro, .bool up, .slice (some ⟨g4, 0, none⟩) n n, .int .i64 cm, .int .i64 el, .int .i64 wt, .slice (some ⟨g4v, 0, none⟩) nv nv, .slice (some ⟨g4x, 0, none⟩) nx nx, .slice (some ⟨g4g, 0, none⟩) ng ng] 31)) (unhide XRv_20).le)
  clear XRv_20
  have XRx_27 := hide ((unhide XRx_21).below (Go.Joins.below_alloc1 _ (.cells #[.int .i64 id, .int .i64 nd, .int .i64 tm, .int .i64 vt, .int .i64 ro, .bool up, .slice (some ⟨g4, 0, none⟩) n n, .int .i64 cm, .int .i64 el, .int .i64 wt, .slice (some ⟨g4v, 0, none⟩) nv nv, .slice (some ⟨g4x, 0, none⟩) nx nx, .slice (some ⟨g4g, 0, none⟩) ng ng] 31)) (unhide XRx_21).le)
  clear XRx_21
  have XRg_28 := hide ((unhide XRg_22).below (Go.Joins.below_alloc1 _ (.cells #[.int .i64 id, .int .i64 nd, .int .i64 tm, .int .i64 vt, .int .i64 ro, .bool up, .slice (some ⟨g4, 0, none⟩) n n, .int .i64 cm, .int .i64 el, .int .i64 wt, .slice (some ⟨g4v, 0, none⟩) nv nv, .slice (some ⟨g4x, 0, none⟩) nx nx, .slice (some ⟨g4g, 0, none⟩) ng ng] 31)) (unhide XRg_22).le)
  clear XRg_22
  have X_29 := hide (BF.new w4 #[.int .i64 id, .int .i64 nd, .int .i64 tm, .int .i64 vt, .int .i64 ro, .bool up, .slice (some ⟨g4, 0, none⟩) n n, .int .i64 cm, .int .i64 el, .int .i64 wt, .slice (some ⟨g4v, 0, none⟩) nv nv, .slice (some ⟨g4x, 0, none⟩) nx nx, .slice (some ⟨g4g, 0, none⟩) ng ng] 31)
  have kX := (unhide X_29).S
  go_wp2_with fail
  refine (iupto id nd tm vt ro cm el wt up _ _ n l HN _ _ nv lv HNv _ _ nx lx HNx _ _ ng lg HNg (unhide HL) (unhide HLv) (unhide HLx) (unhide HLg) HSZ R HRR x1 x2 TT HT U c HU _ (unhide XR_25).rowV (unhide XRv_26).rowV (unhide XRx_27).rowV (unhide XRg_28).rowV).mono ?_
  rintro e w5 ⟨rfl, hb5⟩
  clear kX
  have B_30 := hide ((unhide B_23).trans (hb5.mono (unhide B_23).size))
  clear B_23
  have A_31 := hide ((unhide A_24).below hb5)
  clear A_24
  have XR_32 := hide ((unhide XR_25).below hb5 (unhide XR_25).le)
  clear XR_25
  have XRv_33 := hide ((unhide XRv_26).below hb5 (unhide XRv_26).le)
  clear XRv_26
  have XRx_34 := hide ((unhide XRx_27).below hb5 (unhide XRx_27).le)
  clear XRx_27
  have XRg_35 := hide ((unhide XRg_28).below hb5 (unhide XRg_28).le)
  clear XRg_28
  have X_36 := hide ((unhide X_29).below hb5)
  clear X_29
  clear hb5
  have K6 := And.intro (unhide A_31).S (unhide X_36).S
  have HU6 := hide (unhide XR_32).rowV
  have HU6v := hide (unhide XRv_33).rowV
  have HU6x := hide (unhide XRx_34).rowV
  have HU6g := hide (unhide XRg_35).rowV
  have LA : w.heap.size < _ := (unhide A_31).lt
  have LX : w4.heap.size < _ := (unhide X_36).lt
  go_wp2_with fail
  go_region_held3 (fun w' => (∀ o, w'.cell? ⟨w.heap.size, o, none⟩ = (#[.int .i64 id, .int .i64 nd, .int .i64 tm, .int .i64 vt, .int .i64 ro, .bool up, .slice a n cap, .int .i64 cm, .int .i64 el, .int .i64 wt, .slice av nv cv, .slice ax nx cx, .slice ag ng cg] : Array Value)[o]?) ∧ (∀ o, w'.cell? ⟨w4.heap.size, o, none⟩ = (#[.int .i64 id, .int .i64 nd, .int .i64 tm, .int .i64 vt, .int .i64 ro, .bool up, .slice (some ⟨g4, 0, none⟩) n n, .int .i64 cm, .int .i64 el, .int .i64 wt, .slice (some ⟨g4v, 0, none⟩) nv nv, .slice (some ⟨g4x, 0, none⟩) nx nx, .slice (some ⟨g4g, 0, none⟩) ng ng] : Array Value)[o]?)) (first | exact K6 | exact K7 | exact K8) (first | (go_at_call 6; refine (toNd id nd tm vt ro cm el wt up a cap n l HN av cv nv lv HNv ax cx nx lx HNx ag cg ng lg HNg (unhide HL) (unhide HLv) (unhide HLx) (unhide HLg) _ ((unhide HR).below (unhide B_30).drew) ((unhide HRv).below (unhide B_30).drew) ((unhide HRx).below (unhide B_30).drew) ((unhide HRg).below (unhide B_30).drew)).mono ?_; rintro e w7 ⟨g7, g7v, g7x, g7g, p7a, p7b, p7c, rfl, o7, o7v, o7x, o7g, q7a, q7b, q7c, hb7⟩; have K7 := And.intro (fun o => (hb7.cell (p := ⟨w.heap.size, o, none⟩) LA).trans (K6.1 o)) (fun o => (hb7.cell (p := ⟨w4.heap.size, o, none⟩) LX).trans (K6.2 o)); have HO7 := hide (o7).rowV; have HO7v := hide (o7v).rowV; have HO7x := hide (o7x).rowV; have HO7g := hide (o7g).rowV; clear o7 o7v o7x o7g; have HU7 := hide ((unhide HU6).below (below_undrew hb7)); have HU7v := hide ((unhide HU6v).below (below_undrew hb7)); have HU7x := hide ((unhide HU6x).below (below_undrew hb7)); have HU7g := hide ((unhide HU6g).below (below_undrew hb7)); have HT7 := hide (below_undrew hb7); have LA7 := Nat.lt_of_lt_of_le LA (unhide HT7).size; have LX7 := Nat.lt_of_lt_of_le LX (unhide HT7).size; clear hb7) | (go_at_call 8; refine (eqNd id nd tm vt ro cm el wt up _ _ _ _ n l HN _ _ _ _ nv lv HNv _ _ _ _ nx lx HNx _ _ _ _ ng lg HNg (unhide HL) (unhide HLv) (unhide HLx) (unhide HLg) _ (unhide HU7) (unhide HU7v) (unhide HU7x) (unhide HU7g) (unhide HO7) (unhide HO7v) (unhide HO7x) (unhide HO7g)).mono ?_; rintro e w8 ⟨rfl, hb8⟩; have K8 := And.intro (fun o => (hb8.cell (p := ⟨w.heap.size, o, none⟩) LA7).trans (K7.1 o)) (fun o => (hb8.cell (p := ⟨w4.heap.size, o, none⟩) LX7).trans (K7.2 o)); have HT8 := hide ((unhide HT7).trans (hb8.mono (unhide HT7).size)); clear hb8))
  clear K6 K7 K8 HT7 LA LX LA7 LX7 HO7 HU6 HU7 HO7v HU6v HU7v HO7x HU6x HU7x HO7g HU6g HU7g
  have B_37 := hide ((unhide B_30).trans ((unhide HT8).mono (unhide B_30).size))
  clear B_30
  have A_38 := hide ((unhide A_31).below (unhide HT8))
  clear A_31
  have XR_39 := hide ((unhide XR_32).below (unhide HT8) (unhide XR_32).le)
  clear XR_32
  have XRv_40 := hide ((unhide XRv_33).below (unhide HT8) (unhide XRv_33).le)
  clear XRv_33
  have XRx_41 := hide ((unhide XRx_34).below (unhide HT8) (unhide XRx_34).le)
  clear XRx_34
  have XRg_42 := hide ((unhide XRg_35).below (unhide HT8) (unhide XRg_35).le)
  clear XRg_35
  have X_43 := hide ((unhide X_36).below (unhide HT8))
  clear X_36
  clear HT8
  go_wp2_with fail
  go_ret
  exact ⟨rfl, (unhide B_37)⟩

set_option maxRecDepth 100000 in
theorem lifted (os : Os) (started : os.Started) (H : Type) (enc : TypeId × Value → H) :
    ReturnsInHanded {} Try.checked os 3 .any (Rows.fnExactUpToDateSpec.pre6 enc Try.prog Try.f3 Rows.fnExactUpToDateRow.domain false) (Rows.fnExactUpToDateSpec.post enc Try.prog Try.f3 false true false false) := by
  refine returnsInHanded_of_change (C := Try.checked) own started (by kernel_rfl) Try.func3
    (ChangeSpec.witness6 (enc := enc) (C := Try.checked) false ⟨#[], #[.agg #[.int .i64 0, .int .i64 0, .int .i64 0, .int .i64 0, .int .i64 0, .bool false, .slice none 0 0, .int .i64 0, .int .i64 0, .int .i64 0, .slice none 0 0, .slice none 0 0, .slice none 0 0], .int .i64 0, .int .i64 0], []⟩ 8 (by kernel_rfl) (by kernel_rfl) (by kernel_rfl) (by kernel_rfl)) ?_
  intro W base args ds gs before hval0 hW hcnd _
  have hval : ∀ (j : Nat) t v, Try.f3.params[j]? = some t → args[j]? = some v → Value.okWide Try.prog W .any base t v := hval0
  have hW' := hW
  obtain ⟨p, q, hA0, hV, rfl, hfz, hnd⟩ := hW
  have hA : DataW.TrodAll enc Try.prog W 0 (fun _ => true) true Try.f3.params.toList args.toList ds p := hA0
  rw [Try.params3] at hA hval
  obtain ⟨v0, vs0, d_0, ds0, p0, q0, hargs, rfl, rfl, h0, r0⟩ := trodAll_cons hA
  obtain ⟨v1, vs1, d_1, ds1, p1, q1, rfl, rfl, rfl, h1, r1⟩ := trodAll_cons r0
  obtain ⟨v2, vs2, d_2, ds2, p2, q2, rfl, rfl, rfl, h2, r2⟩ := trodAll_cons r1
  obtain ⟨rfl, rfl, rfl⟩ := trodAll_nil r2
  obtain rfl : args = #[v0, v1, v2] := by cases args; simp_all
  obtain ⟨rfl, rfl⟩ := trodVars_none hV
  have k0 := h0
  have lt0 : ∀ x ∈ p0, x.block < W.heap.size := by obtain ⟨m, hm⟩ := k0; exact DataW.trod_lt m _ _ _ hm
  have k1 := h1
  have lt1 : ∀ x ∈ p1, x.block < W.heap.size := by obtain ⟨m, hm⟩ := k1; exact DataW.trod_lt m _ _ _ hm
  have k2 := h2
  have lt2 : ∀ x ∈ p2, x.block < W.heap.size := by obtain ⟨m, hm⟩ := k2; exact DataW.trod_lt m _ _ _ hm
  obtain ⟨c0_0, c0_1, c0_2, c0_3, c0_4, c0_5, c0_6, c0_7, c0_8, c0_9, c0_10, c0_11, c0_12, u0_0, u0_1, u0_2, u0_3, u0_4, u0_5, u0_6, u0_7, u0_8, u0_9, u0_10, u0_11, u0_12, n0, rfl, z0_0, z0_1, z0_2, z0_3, z0_4, z0_5, z0_6, z0_7, z0_8, z0_9, z0_10, z0_11, z0_12⟩ := open_agg13 Try.underlying25 (by kernel_rfl) (by kernel_rfl) (hval 0 25 v0 rfl rfl) h0
  obtain ⟨id, e0_0, -, -⟩ := DataW.trod_int Try.underlying3 z0_0
  obtain rfl : c0_0 = .int .i64 id := by simpa using e0_0
  obtain ⟨nd, e0_1, -, -⟩ := DataW.trod_int Try.underlying3 z0_1
  obtain rfl : c0_1 = .int .i64 nd := by simpa using e0_1
  obtain ⟨tm, e0_2, -, -⟩ := DataW.trod_int Try.underlying3 z0_2
  obtain rfl : c0_2 = .int .i64 tm := by simpa using e0_2
  obtain ⟨vt, e0_3, -, -⟩ := DataW.trod_int Try.underlying3 z0_3
  obtain rfl : c0_3 = .int .i64 vt := by simpa using e0_3
  obtain ⟨ro, e0_4, -, -⟩ := DataW.trod_int Try.underlying3 z0_4
  obtain rfl : c0_4 = .int .i64 ro := by simpa using e0_4
  obtain ⟨up, e0_5, -⟩ := DataW.trod_bool Try.underlying4 z0_5
  obtain rfl : c0_5 = .bool up := by simpa using e0_5
  obtain ⟨a, n, cap, l, rfl, el_, ml_, sl, rl_⟩ := entries_field Try.underlying22 Try.underlying46 (by kernel_rfl) rfl rfl (by kernel_rfl) (by kernel_rfl) Try.underlying3 Try.underlying9 z0_6
  obtain ⟨cm, e0_7, -, -⟩ := DataW.trod_int Try.underlying3 z0_7
  obtain rfl : c0_7 = .int .i64 cm := by simpa using e0_7
  obtain ⟨el, e0_8, -, -⟩ := DataW.trod_int Try.underlying3 z0_8
  obtain rfl : c0_8 = .int .i64 el := by simpa using e0_8
  obtain ⟨wt, e0_9, -, -⟩ := DataW.trod_int Try.underlying3 z0_9
  obtain rfl : c0_9 = .int .i64 wt := by simpa using e0_9
  obtain ⟨av, nv, cv, lv, rfl, el_v, ml_v, rl_v⟩ := ints_field Try.underlying23 Try.underlying3 (by kernel_rfl) z0_10
  obtain ⟨ax, nx, cx, lx, rfl, el_x, ml_x, rl_x⟩ := ints_field Try.underlying23 Try.underlying3 (by kernel_rfl) z0_11
  obtain ⟨ag, ng, cg, lg, rfl, el_g, ml_g, rl_g⟩ := ints_field Try.underlying23 Try.underlying3 (by kernel_rfl) z0_12
  obtain ⟨x1, rfl, rfl, rfl, y1⟩ := open_int Try.underlying3 (hval 1 3 v1 rfl rfl) h1
  obtain ⟨x2, rfl, rfl, rfl, y2⟩ := open_int Try.underlying3 (hval 2 3 v2 rfl rfl) h2
  clear hA0 hval0
  refine (walk W id nd tm vt ro cm el wt up a n cap l el_ ml_ sl av nv cv lv el_v ml_v ax nx cx lx el_x ml_x ag ng cg lg el_g ml_g x1 y1 x2 y2 rl_ rl_v rl_x rl_g).mono fun e W' ⟨he, bel⟩ => ?_
  subst he
  exact ⟨_, rfl, _, _, _, [], _, [], hW', trodAll_mk1 (shut_bool Try.underlying4 _), (trodAll_cons_mk (Below.trod laidOut (by kernel_rfl) (of_decide_eq_true (by kernel_rfl)) k0 bel lt0) (trodAll_cons_mk (Below.trod laidOut (by kernel_rfl) (of_decide_eq_true (by kernel_rfl)) k1 bel lt1) (trodAll_cons_mk (Below.trod laidOut (by kernel_rfl) (of_decide_eq_true (by kernel_rfl)) k2 bel lt2) trodAll_mk0))), rfl, bel.frame _, fun h => by cases h⟩

theorem over : Rows.fnExactUpToDateRow.holds Try.pinned (OpenSpec.ofChange Rows.fnExactUpToDateSpec) :=
  OpenClaim.holds_of_wide 3 Try.f3 rfl rfl rfl rfl rfl rfl rfl ⟨rfl, rfl, rfl, rfl, rfl⟩ rfl rfl rfl rfl rfl (by kernel_rfl) Try.func3 (by kernel_rfl)
    (of_decide_eq_true (by kernel_rfl)) (by unfold Func.isWrapper; first | (rw [if_pos (by decide +kernel)]; kernel_rfl) | (rw [if_neg (by decide +kernel)]; exact ⟨rfl, rfl⟩))
    (fun os started H enc _ => lifted os started H enc)

theorem proved : Rows.FnExactUpToDateSaid := over
#print axioms proved
end Go.Proofs.Ytejedkkpllfpeaa
