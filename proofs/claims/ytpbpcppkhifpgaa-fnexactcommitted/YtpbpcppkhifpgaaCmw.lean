/- At every argument that can be read, the law FnExactCommitted returns true and leaves its arguments as they were: no condition. -/
import Derived.Test.YtpbpcppkhifpgaaCmAll
import Derived.Test.YtpbpcppkhifpgaaAgg13
import Derived.Test.YtpbpcppkhifpgaaEntO
import Derived.Test.YtpbpcppkhifpgaaIntO
import Derived.WalkKit
import Derived.ProofKit
import Derived.OpenShut
import Derived.ShutString
import Derived.ChangeOld
import Derived.Below
import Derived.Deep.Strs
namespace Go.Proofs.Ytpbpcppkhifpgaa
open Go.ChangeShapes Go.WideShapes Go.ChangeAt Go.RowKit
set_option linter.unusedVariables false

theorem own : ownKnob Try.prog.godebug = none := by kernel_rfl
theorem laidOut : laidOutB Try.prog = true := by kernel_rfl
set_option maxHeartbeats 4000000 in
set_option maxRecDepth 100000 in
theorem walk (w : World) (id nd tm vt ro cm el wt : Int) (up : Bool) (a : Option Addr) (n cap : Nat) (l : List (Int × ByteArray)) (ql : l.length = n) (ml : n ≤ maxLen) (sl : ∀ k (h : k < l.length), l[k].2.size ≤ maxLen) (av : Option Addr) (nv cv : Nat) (lv : List Int) (qlv : lv.length = nv) (mlv : nv ≤ maxLen) (ax : Option Addr) (nx cx : Nat) (lx : List Int) (qlx : lx.length = nx) (mlx : nx ≤ maxLen) (ag : Option Addr) (ng cg : Nat) (lg : List Int) (qlg : lg.length = ng) (mlg : ng ≤ maxLen) (rl : RowV w a (cE l)) (rlv : RowV w av (cI lv)) (rlx : RowV w ax (cI lx)) (rlg : RowV w ag (cI lg)) :
    Calls Try.prog 3 #[.agg #[.int .i64 id, .int .i64 nd, .int .i64 tm, .int .i64 vt, .int .i64 ro, .bool up, .slice a n cap, .int .i64 cm, .int .i64 el, .int .i64 wt, .slice av nv cv, .slice ax nx cx, .slice ag ng cg]] w fun e w' => e = .returned (.bool true) ∧ Below w.heap.size w w' := by
  obtain ⟨R, hR⟩ : ∃ R, R = nodeB id nd tm vt ro cm el wt up l lv lx lg := ⟨_, rfl⟩
  have HRR := hide hR
  obtain ⟨L, c, his⟩ : ∃ L c, CmIs R l cm L c := ⟨_, _, rfl, rfl⟩
  have HIS := hide his
  have nc : (c != c) = false := by simp
  obtain ⟨q, hq⟩ : ∃ q : Int, q = ((1 + L.length : Nat) : Int) := ⟨_, rfl⟩
  have q1 : ¬ q < 0 := by omega
  have nq : (q != q) = false := by simp
  have HQ := hide hq
  obtain ⟨k1, k2, k3, kq, hkk⟩ : ∃ (k1 k2 k3 : Nat) (kq : Int), k1 = 1 + n * 2 ∧ k2 = k1 + nv ∧ k3 = k2 + nx ∧ kq = ((k3 + ng : Nat) : Int) := ⟨_, _, _, _, rfl, rfl, rfl, rfl⟩
  have hk0 : ¬ kq < 0 := by omega
  have HKK := hide hkk
  clear hR his hq hkk
  have HN := hide ql
  have HM := hide ml
  have HR := hide rl
  clear ql ml rl
  have HNv := hide qlv
  have HMv := hide mlv
  have HRv := hide rlv
  clear qlv mlv rlv
  have HNx := hide qlx
  have HMx := hide mlx
  have HRx := hide rlx
  clear qlx mlx rlx
  have HNg := hide qlg
  have HMg := hide mlg
  have HRg := hide rlg
  clear qlg mlg rlg
  have HS := hide sl
  clear sl
  have B_1 := hide (Go.Joins.below_alloc1 w (.cells #[.int .i64 id, .int .i64 nd, .int .i64 tm, .int .i64 vt, .int .i64 ro, .bool up, .slice a n cap, .int .i64 cm, .int .i64 el, .int .i64 wt, .slice av nv cv, .slice ax nx cx, .slice ag ng cg] 25))
  have A_2 := hide (BF.new w #[.int .i64 id, .int .i64 nd, .int .i64 tm, .int .i64 vt, .int .i64 ro, .bool up, .slice a n cap, .int .i64 cm, .int .i64 el, .int .i64 wt, .slice av nv cv, .slice ax nx cx, .slice ag ng cg] 25)
  go_enter Try.func3, Try.ntmps3
  have kA := (unhide A_2).S
  go_wp2_with fail
  refine (szNd id nd tm vt ro cm el wt up a cap n l HN av cv nv lv HNv ax cx nx lx HNx ag cg ng lg HNg 1048576 (Nat.le_refl _) HM HMv HMx HMg HS _ ((unhide HR).below (unhide B_1))).mono ?_
  rintro e w1 ⟨x, rfl, hb1, hx⟩
  clear kA
  have B_3 := hide ((unhide B_1).trans (hb1.mono (unhide B_1).size))
  clear B_1
  have A_4 := hide ((unhide A_2).below hb1)
  clear A_2
  clear hb1
  rcases hx with rfl | ⟨z, rfl, hz, hl, hlv, hlx, hlg, hs⟩
  · go_wp2_with fail
    go_ret
    exact ⟨rfl, (unhide B_3)⟩
  have hzn : ¬ (z : Int) < 0 := by omega
  have HSZ := hide hs
  have HY := hide hz
  clear hs HS hz
  have HL := hide hl
  clear hl HM
  have HLv := hide hlv
  clear hlv HMv
  have HLx := hide hlx
  clear hlx HMx
  have HLg := hide hlg
  clear hlg HMg
  have hLL : L.length ≤ 1048576 := by
    have h := (unhide HIS).1; have hl := unhide HL; have hn := unhide HN
    rw [h]; split
    · unfold datS; rw [List.length_map, List.length_take]; omega
    · simp
  have HLL := hide hLL
  clear hLL
  have hKM : 1 + n * 2 + nv + nx + ng ≤ 3000000 := by have := unhide HY; omega
  have HKM := hide hKM
  clear hKM
  have kA := (unhide A_4).S
  go_wp2_with fail
  refine (toNd id nd tm vt ro cm el wt up a cap n l HN av cv nv lv HNv ax cx nx lx HNx ag cg ng lg HNg (unhide HL) (unhide HLv) (unhide HLx) (unhide HLg) _ ((unhide HR).below (unhide B_3)) ((unhide HRv).below (unhide B_3)) ((unhide HRx).below (unhide B_3)) ((unhide HRg).below (unhide B_3))).mono ?_
  rintro e w2 ⟨g2, g2v, g2x, g2g, p2a, p2b, p2c, rfl, o2, o2v, o2x, o2g, q2a, q2b, q2c, hb2⟩
  clear kA
  have B_5 := hide ((unhide B_3).trans (hb2.mono (unhide B_3).size))
  clear B_3
  have A_6 := hide ((unhide A_4).below hb2)
  clear A_4
  clear hb2
  have S_7 := hide (o2)
  have Sv_8 := hide (o2v)
  have Sx_9 := hide (o2x)
  have Sg_10 := hide (o2g)
  clear o2 o2v o2x o2g
  have S2 : Hid (w.heap.size + 1 ≤ w2.heap.size) := (unhide A_6).lt
  go_wp2_with fail
  refine (scomm id nd tm vt ro cm el wt up g2 n l HN _ _ nv lv HNv _ _ nx lx HNx _ _ ng lg HNg (unhide HL) (unhide HLv) (unhide HLx) (unhide HLg) HSZ R HRR L c HIS _ (unhide S_7).rowV (unhide Sv_8).rowV (unhide Sx_9).rowV (unhide Sg_10).rowV).mono ?_
  rintro e w3 ⟨vW, rfl, hoW, hb3⟩
  have z3 : w2.heap.size ≤ w3.heap.size := by have := hb3.size; (try simp at this); omega
  have B_11 := hide ((unhide B_5).trans (hb3.mono (unhide B_5).size))
  clear B_5
  have A_12 := hide ((unhide A_6).below hb3)
  clear A_6
  have S_13 := hide ((unhide S_7).below hb3 (unhide S_7).le)
  clear S_7
  have Sv_14 := hide ((unhide Sv_8).below hb3 (unhide Sv_8).le)
  clear Sv_8
  have Sx_15 := hide ((unhide Sx_9).below hb3 (unhide Sx_9).le)
  clear Sx_9
  have Sg_16 := hide ((unhide Sg_10).below hb3 (unhide Sg_10).le)
  clear Sg_10
  clear hb3
  obtain ⟨aW, cW, rfl, -⟩ := own_rowV hoW
  have W_17 := hide (held_of hoW)
  clear hoW
  clear S_13
  clear Sv_14
  clear Sx_15
  clear Sg_16
  have S3 := hide z3
  clear z3
  have kA := (unhide A_12).S
  go_wp2_with fail
  refine (toNd id nd tm vt ro cm el wt up a cap n l HN av cv nv lv HNv ax cx nx lx HNx ag cg ng lg HNg (unhide HL) (unhide HLv) (unhide HLx) (unhide HLg) _ ((unhide HR).below (unhide B_11)) ((unhide HRv).below (unhide B_11)) ((unhide HRx).below (unhide B_11)) ((unhide HRg).below (unhide B_11))).mono ?_
  rintro e w4 ⟨g4, g4v, g4x, g4g, p4a, p4b, p4c, rfl, o4, o4v, o4x, o4g, q4a, q4b, q4c, hb4⟩
  clear kA
  have B_18 := hide ((unhide B_11).trans (hb4.mono (unhide B_11).size))
  clear B_11
  have A_19 := hide ((unhide A_12).below hb4)
  clear A_12
  have W_20 := hide ((unhide W_17).below hb4 (unhide W_17).le)
  clear W_17
  clear hb4
  have XR_21 := hide (o4)
  have XRv_22 := hide (o4v)
  have XRx_23 := hide (o4x)
  have XRg_24 := hide (o4g)
  clear o4 o4v o4x o4g
  have S4 : Hid (w3.heap.size ≤ p4a ∧ p4a ≤ p4b ∧ p4b ≤ p4c ∧ p4c ≤ w4.heap.size) := ⟨q4a, q4b, q4c, (unhide XRg_24).lo_le⟩
  clear q4a q4b q4c
  have B_25 := hide ((unhide B_18).alloc (unhide B_18).size (.cells #[.int .i64 id, .int .i64 nd, .int .i64 tm, .int .i64 vt, .int .i64 ro, .bool up, .slice (some ⟨g4, 0, none⟩) n n, .int .i64 cm, .int .i64 el, .int .i64 wt, .slice (some ⟨g4v, 0, none⟩) nv nv, .slice (some ⟨g4x, 0, none⟩) nx nx, .slice (some ⟨g4g, 0, none⟩) ng ng] 32))
  clear B_18
  have A_26 := hide ((unhide A_19).alloc (.cells #[.int .i64 id, .int .i64 nd, .int .i64 tm, .int .i64 vt, .int .i64 ro, .bool up, .slice (some ⟨g4, 0, none⟩) n n, .int .i64 cm, .int .i64 el, .int .i64 wt, .slice (some ⟨g4v, 0, none⟩) nv nv, .slice (some ⟨g4x, 0, none⟩) nx nx, .slice (some ⟨g4g, 0, none⟩) ng ng] 32))
  clear A_19
  have W_27 := hide ((unhide W_20).below (Go.Joins.below_alloc1 _ (.cells #[.int .i64 id, .int .i64 nd, .int .i64 tm, .int .i64 vt, .int .i64 ro, .bool up, .slice (some ⟨g4, 0, none⟩) n n, .int .i64 cm, .int .i64 el, .int .i64 wt, .slice (some ⟨g4v, 0, none⟩) nv nv, .slice (some ⟨g4x, 0, none⟩) nx nx, .slice (some ⟨g4g, 0, none⟩) ng ng] 32)) (unhide W_20).le)
  clear W_20
  have XR_28 := hide ((unhide XR_21).below (Go.Joins.below_alloc1 _ (.cells #[.int .i64 id, .int .i64 nd, .int .i64 tm, .int .i64 vt, .int .i64 ro, .bool up, .slice (some ⟨g4, 0, none⟩) n n, .int .i64 cm, .int .i64 el, .int .i64 wt, .slice (some ⟨g4v, 0, none⟩) nv nv, .slice (some ⟨g4x, 0, none⟩) nx nx, .slice (some ⟨g4g, 0, none⟩) ng ng] 32)) (unhide XR_21).le)
  clear XR_21
  have XRv_29 := hide ((unhide XRv_22).below (Go.Joins.below_alloc1 _ (.cells #[.int .i64 id, .int .i64 nd, .int .i64 tm, .int .i64 vt, .int .i64 ro, .bool up, .slice (some ⟨g4, 0, none⟩) n n, .int .i64 cm, .int .i64 el, .int .i64 wt, .slice (some ⟨g4v, 0, none⟩) nv nv, .slice (some ⟨g4x, 0, none⟩) nx nx, .slice (some ⟨g4g, 0, none⟩) ng ng] 32)) (unhide XRv_22).le)
  clear XRv_22
  have XRx_30 := hide ((unhide XRx_23).below (Go.Joins.below_alloc1 _ (.cells #[.int .i64 id, .int .i64 nd, .int .i64 tm, .int .i64 vt, .int .i64 ro, .bool up, .slice (some ⟨g4, 0, none⟩) n n, .int .i64 cm, .int .i64 el, .int .i64 wt, .slice (some ⟨g4v, 0, none⟩) nv nv, .slice (some ⟨g4x, 0, none⟩) nx nx, .slice (some ⟨g4g, 0, none⟩) ng ng] 32)) (unhide XRx_23).le)
  clear XRx_23
  have XRg_31 := hide ((unhide XRg_24).below (Go.Joins.below_alloc1 _ (.cells #[.int .i64 id, .int .i64 nd, .int .i64 tm, .int .i64 vt, .int .i64 ro, .bool up, .slice (some ⟨g4, 0, none⟩) n n, .int .i64 cm, .int .i64 el, .int .i64 wt, .slice (some ⟨g4v, 0, none⟩) nv nv, .slice (some ⟨g4x, 0, none⟩) nx nx, .slice (some ⟨g4g, 0, none⟩) ng ng] 32)) (unhide XRg_24).le)
  clear XRg_24
  have X_32 := hide (BF.new w4 #[.int .i64 id, .int .i64 nd, .int .i64 tm, .int .i64 vt, .int .i64 ro, .bool up, .slice (some ⟨g4, 0, none⟩) n n, .int .i64 cm, .int .i64 el, .int .i64 wt, .slice (some ⟨g4v, 0, none⟩) nv nv, .slice (some ⟨g4x, 0, none⟩) nx nx, .slice (some ⟨g4g, 0, none⟩) ng ng] 32)
  have kX := (unhide X_32).S
  go_wp2_with fail
  refine (icomm id nd tm vt ro cm el wt up g4 n l HN _ _ nv lv HNv _ _ nx lx HNx _ _ ng lg HNg (unhide HL) (unhide HLv) (unhide HLx) (unhide HLg) HSZ R HRR L c HIS _ (unhide XR_28).rowV (unhide XRv_29).rowV (unhide XRx_30).rowV (unhide XRg_31).rowV).mono ?_
  rintro e w5 ⟨vG, rfl, hoG, hb5⟩
  clear kX
  have B_33 := hide ((unhide B_25).trans (hb5.mono (unhide B_25).size))
  clear B_25
  have A_34 := hide ((unhide A_26).below hb5)
  clear A_26
  have W_35 := hide ((unhide W_27).below hb5 (unhide W_27).le)
  clear W_27
  have XR_36 := hide ((unhide XR_28).below hb5 (unhide XR_28).le)
  clear XR_28
  have XRv_37 := hide ((unhide XRv_29).below hb5 (unhide XRv_29).le)
  clear XRv_29
  have XRx_38 := hide ((unhide XRx_30).below hb5 (unhide XRx_30).le)
  clear XRx_30
  have XRg_39 := hide ((unhide XRg_31).below hb5 (unhide XRg_31).le)
  clear XRg_31
  have X_40 := hide ((unhide X_32).below hb5)
  clear X_32
  clear hb5
  obtain ⟨aG, cG, rfl, -⟩ := own_rowV hoG
  have G_41 := hide (held_of hoG)
  clear hoG
  try simp only [World.size_alloc] at G_41
  go_wp2_with fail
  refine (sameString aG aW cG cW L (unhide HLL) _ (unhide G_41).rowV (unhide W_35).rowV).mono ?_
  rintro e w6 ⟨rfl, hb6⟩
  have B_42 := hide ((unhide B_33).trans (hb6.mono (unhide B_33).size))
  clear B_33
  have A_43 := hide ((unhide A_34).below hb6)
  clear A_34
  have W_44 := hide ((unhide W_35).below hb6 (unhide W_35).le)
  clear W_35
  have XR_45 := hide ((unhide XR_36).below hb6 (unhide XR_36).le)
  clear XR_36
  have XRv_46 := hide ((unhide XRv_37).below hb6 (unhide XRv_37).le)
  clear XRv_37
  have XRx_47 := hide ((unhide XRx_38).below hb6 (unhide XRx_38).le)
  clear XRx_38
  have XRg_48 := hide ((unhide XRg_39).below hb6 (unhide XRg_39).le)
  clear XRg_39
  have X_49 := hide ((unhide X_40).below hb6)
  clear X_40
  have G_50 := hide ((unhide G_41).below hb6 (unhide G_41).le)
  clear G_41
  clear hb6
  have K6 := And.intro (unhide A_43).S (unhide X_49).S
  have HU6 := hide (unhide XR_45).rowV
  have HU6v := hide (unhide XRv_46).rowV
  have HU6x := hide (unhide XRx_47).rowV
  have HU6g := hide (unhide XRg_48).rowV
  have LA : w.heap.size < _ := (unhide A_43).lt
  have LX : w4.heap.size < _ := (unhide X_49).lt
  go_wp2_with fail
  go_region_held3 (fun w' => (∀ o, w'.cell? ⟨w.heap.size, o, none⟩ = (#[.int .i64 id, .int .i64 nd, .int .i64 tm, .int .i64 vt, .int .i64 ro, .bool up, .slice a n cap, .int .i64 cm, .int .i64 el, .int .i64 wt, .slice av nv cv, .slice ax nx cx, .slice ag ng cg] : Array Value)[o]?) ∧ (∀ o, w'.cell? ⟨w4.heap.size, o, none⟩ = (#[.int .i64 id, .int .i64 nd, .int .i64 tm, .int .i64 vt, .int .i64 ro, .bool up, .slice (some ⟨g4, 0, none⟩) n n, .int .i64 cm, .int .i64 el, .int .i64 wt, .slice (some ⟨g4v, 0, none⟩) nv nv, .slice (some ⟨g4x, 0, none⟩) nx nx, .slice (some ⟨g4g, 0, none⟩) ng ng] : Array Value)[o]?)) (first | exact K6 | exact K7 | exact K8) (first | (go_at_call 6; refine (toNd id nd tm vt ro cm el wt up a cap n l HN av cv nv lv HNv ax cx nx lx HNx ag cg ng lg HNg (unhide HL) (unhide HLv) (unhide HLx) (unhide HLg) _ ((unhide HR).below (unhide B_42).drew) ((unhide HRv).below (unhide B_42).drew) ((unhide HRx).below (unhide B_42).drew) ((unhide HRg).below (unhide B_42).drew)).mono ?_; rintro e w7 ⟨g7, g7v, g7x, g7g, p7a, p7b, p7c, rfl, o7, o7v, o7x, o7g, q7a, q7b, q7c, hb7⟩; have K7 := And.intro (fun o => (hb7.cell (p := ⟨w.heap.size, o, none⟩) LA).trans (K6.1 o)) (fun o => (hb7.cell (p := ⟨w4.heap.size, o, none⟩) LX).trans (K6.2 o)); have HO7 := hide (o7).rowV; have HO7v := hide (o7v).rowV; have HO7x := hide (o7x).rowV; have HO7g := hide (o7g).rowV; clear o7 o7v o7x o7g; have HU7 := hide ((unhide HU6).below (below_undrew hb7)); have HU7v := hide ((unhide HU6v).below (below_undrew hb7)); have HU7x := hide ((unhide HU6x).below (below_undrew hb7)); have HU7g := hide ((unhide HU6g).below (below_undrew hb7)); have HT7 := hide (below_undrew hb7); have LA7 := Nat.lt_of_lt_of_le LA (unhide HT7).size; have LX7 := Nat.lt_of_lt_of_le LX (unhide HT7).size; clear hb7) | (go_at_call 9; refine (eqNd id nd tm vt ro cm el wt up _ _ _ _ n l HN _ _ _ _ nv lv HNv _ _ _ _ nx lx HNx _ _ _ _ ng lg HNg (unhide HL) (unhide HLv) (unhide HLx) (unhide HLg) _ (unhide HU7) (unhide HU7v) (unhide HU7x) (unhide HU7g) (unhide HO7) (unhide HO7v) (unhide HO7x) (unhide HO7g)).mono ?_; rintro e w8 ⟨rfl, hb8⟩; have K8 := And.intro (fun o => (hb8.cell (p := ⟨w.heap.size, o, none⟩) LA7).trans (K7.1 o)) (fun o => (hb8.cell (p := ⟨w4.heap.size, o, none⟩) LX7).trans (K7.2 o)); have HT8 := hide ((unhide HT7).trans (hb8.mono (unhide HT7).size)); clear hb8))
  clear K6 K7 K8 HT7 LA LX LA7 LX7 HO7 HU6 HU7 HO7v HU6v HU7v HO7x HU6x HU7x HO7g HU6g HU7g
  have B_51 := hide ((unhide B_42).trans ((unhide HT8).mono (unhide B_42).size))
  clear B_42
  have A_52 := hide ((unhide A_43).below (unhide HT8))
  clear A_43
  have W_53 := hide ((unhide W_44).below (unhide HT8) (unhide W_44).le)
  clear W_44
  have XR_54 := hide ((unhide XR_45).below (unhide HT8) (unhide XR_45).le)
  clear XR_45
  have XRv_55 := hide ((unhide XRv_46).below (unhide HT8) (unhide XRv_46).le)
  clear XRv_46
  have XRx_56 := hide ((unhide XRx_47).below (unhide HT8) (unhide XRx_47).le)
  clear XRx_47
  have XRg_57 := hide ((unhide XRg_48).below (unhide HT8) (unhide XRg_48).le)
  clear XRg_48
  have X_58 := hide ((unhide X_49).below (unhide HT8))
  clear X_49
  have G_59 := hide ((unhide G_50).below (unhide HT8) (unhide G_50).le)
  clear G_50
  clear HT8
  have kX := (unhide X_58).S
  go_wp2_with fail
  refine (markNd id nd tm vt ro cm el wt up (some ⟨g4, 0, none⟩) n n (some ⟨g4v, 0, none⟩) nv nv (some ⟨g4x, 0, none⟩) nx nx (some ⟨g4g, 0, none⟩) ng ng _ _ _ _ _ (unhide S4) 1 k1 k2 k3 kq HKK (hide (by decide)) HKM _ _ _ _ _ ⟨(unhide XR_54), (unhide XRv_55), (unhide XRx_56), (unhide XRg_57)⟩).mono ?_
  rintro e w9 ⟨rfl, -, -, -, -, ho9⟩
  clear kX
  have B_60 := hide (Below.outs (unhide B_51) (unhide B_51).size ho9 (by have := unhide S2; have := unhide S3; have := unhide S4; omega))
  clear B_51
  have A_61 := hide ((unhide A_52).outs ho9 (by have := unhide S2; have := unhide S3; have := unhide S4; omega))
  clear A_52
  have W_62 := hide ((unhide W_53).outs ho9 (by have := unhide S2; have := unhide S3; have := unhide S4; omega))
  clear W_53
  have X_63 := hide ((unhide X_58).outs ho9 (by have := unhide S2; have := unhide S3; have := unhide S4; omega))
  clear X_58
  have G_64 := hide ((unhide G_59).outs ho9 (by have := unhide S2; have := unhide S3; have := unhide S4; omega))
  clear G_59
  clear ho9
  go_wp2_with fail
  refine (sameString aG aW cG cW L (unhide HLL) _ (unhide G_64).rowV (unhide W_62).rowV).mono ?_
  rintro e w10 ⟨rfl, hb10⟩
  have B_65 := hide ((unhide B_60).trans (hb10.mono (unhide B_60).size))
  clear B_60
  have A_66 := hide ((unhide A_61).below hb10)
  clear A_61
  have W_67 := hide ((unhide W_62).below hb10 (unhide W_62).le)
  clear W_62
  have X_68 := hide ((unhide X_63).below hb10)
  clear X_63
  have G_69 := hide ((unhide G_64).below hb10 (unhide G_64).le)
  clear G_64
  clear hb10
  have hSS : w.heap.size + 1 ≤ w4.heap.size ∧ w2.heap.size ≤ w3.heap.size ∧ w3.heap.size ≤ w4.heap.size ∧ w.heap.size + 1 ≤ w2.heap.size := by have := unhide S2; have := unhide S3; have := unhide S4; omega
  go_wp2_with fail
  refine (markString1 _ L.length _ _ q _ (unhide HQ) (Nat.le_trans (unhide HLL) (by decide)) _ (unhide G_69)).mono ?_
  rintro e w11 ⟨rfl, h11, hg11⟩
  have B_70 := hide (Below.marked (unhide B_65) (unhide B_65).size (unhide G_69) (by omega) hg11)
  clear B_65
  have A_71 := hide ((unhide A_66).grown hg11 (fun hk => by have := (unhide G_69).blk _ hk; omega))
  clear A_66
  have W_72 := hide ((unhide W_67).grown hg11 (fun k hk => by have := (unhide G_69).blk k hk; omega))
  clear W_67
  have X_73 := hide ((unhide X_68).grown hg11 (fun hk => by have := (unhide G_69).blk _ hk; omega))
  clear X_68
  have G_m11 := hide h11
  clear h11 hg11 G_69
  go_wp2_with fail
  refine (heldString1 _ L.length _ _ q (unhide HQ) (Nat.le_trans (unhide HLL) (by decide)) _ (unhide G_m11)).mono ?_
  rintro e w12 ⟨rfl, hb12⟩
  have B_74 := hide ((unhide B_70).trans (hb12.mono (unhide B_70).size))
  clear B_70
  have A_75 := hide ((unhide A_71).below hb12)
  clear A_71
  have W_76 := hide ((unhide W_72).below hb12 (unhide W_72).le)
  clear W_72
  have X_77 := hide ((unhide X_73).below hb12)
  clear X_73
  have G_78 := hide ((unhide G_m11).below hb12 (unhide G_m11).le)
  clear G_m11
  clear hb12
  have kA := (unhide A_75).S
  go_wp2_with fail
  refine (toNd id nd tm vt ro cm el wt up a cap n l HN av cv nv lv HNv ax cx nx lx HNx ag cg ng lg HNg (unhide HL) (unhide HLv) (unhide HLx) (unhide HLg) _ ((unhide HR).below (unhide B_74)) ((unhide HRv).below (unhide B_74)) ((unhide HRx).below (unhide B_74)) ((unhide HRg).below (unhide B_74))).mono ?_
  rintro e w13 ⟨g13, g13v, g13x, g13g, p13a, p13b, p13c, rfl, o13, o13v, o13x, o13g, q13a, q13b, q13c, hb13⟩
  clear kA
  have B_79 := hide ((unhide B_74).trans (hb13.mono (unhide B_74).size))
  clear B_74
  have A_80 := hide ((unhide A_75).below hb13)
  clear A_75
  have W_81 := hide ((unhide W_76).below hb13 (unhide W_76).le)
  clear W_76
  have X_82 := hide ((unhide X_77).below hb13)
  clear X_77
  have G_83 := hide ((unhide G_78).below hb13 (unhide G_78).le)
  clear G_78
  clear hb13
  have T_84 := hide (o13)
  have Tv_85 := hide (o13v)
  have Tx_86 := hide (o13x)
  have Tg_87 := hide (o13g)
  clear o13 o13v o13x o13g
  go_wp2_with fail
  refine (icomm id nd tm vt ro cm el wt up g13 n l HN _ _ nv lv HNv _ _ nx lx HNx _ _ ng lg HNg (unhide HL) (unhide HLv) (unhide HLx) (unhide HLg) HSZ R HRR L c HIS _ (unhide T_84).rowV (unhide Tv_85).rowV (unhide Tx_86).rowV (unhide Tg_87).rowV).mono ?_
  rintro e w14 ⟨vH, rfl, hoH, hb14⟩
  have B_88 := hide ((unhide B_79).trans (hb14.mono (unhide B_79).size))
  clear B_79
  have A_89 := hide ((unhide A_80).below hb14)
  clear A_80
  have W_90 := hide ((unhide W_81).below hb14 (unhide W_81).le)
  clear W_81
  have X_91 := hide ((unhide X_82).below hb14)
  clear X_82
  have G_92 := hide ((unhide G_83).below hb14 (unhide G_83).le)
  clear G_83
  have T_93 := hide ((unhide T_84).below hb14 (unhide T_84).le)
  clear T_84
  have Tv_94 := hide ((unhide Tv_85).below hb14 (unhide Tv_85).le)
  clear Tv_85
  have Tx_95 := hide ((unhide Tx_86).below hb14 (unhide Tx_86).le)
  clear Tx_86
  have Tg_96 := hide ((unhide Tg_87).below hb14 (unhide Tg_87).le)
  clear Tg_87
  clear hb14
  obtain ⟨aH, cH, rfl, -⟩ := own_rowV hoH
  have H_97 := hide (held_of hoH)
  clear hoH
  try simp only [World.size_alloc] at H_97
  go_wp2_with fail
  refine (sameString aH aW cH cW L (unhide HLL) _ (unhide H_97).rowV (unhide W_90).rowV).mono ?_
  rintro e w15 ⟨rfl, hb15⟩
  have B_98 := hide ((unhide B_88).trans (hb15.mono (unhide B_88).size))
  clear B_88
  have A_99 := hide ((unhide A_89).below hb15)
  clear A_89
  have W_100 := hide ((unhide W_90).below hb15 (unhide W_90).le)
  clear W_90
  have X_101 := hide ((unhide X_91).below hb15)
  clear X_91
  have G_102 := hide ((unhide G_92).below hb15 (unhide G_92).le)
  clear G_92
  have T_103 := hide ((unhide T_93).below hb15 (unhide T_93).le)
  clear T_93
  have Tv_104 := hide ((unhide Tv_94).below hb15 (unhide Tv_94).le)
  clear Tv_94
  have Tx_105 := hide ((unhide Tx_95).below hb15 (unhide Tx_95).le)
  clear Tx_95
  have Tg_106 := hide ((unhide Tg_96).below hb15 (unhide Tg_96).le)
  clear Tg_96
  have H_107 := hide ((unhide H_97).below hb15 (unhide H_97).le)
  clear H_97
  clear hb15
  go_wp2_with fail
  refine (heldString1 _ L.length _ _ q (unhide HQ) (Nat.le_trans (unhide HLL) (by decide)) _ (unhide G_102)).mono ?_
  rintro e w16 ⟨rfl, hb16⟩
  have B_108 := hide ((unhide B_98).trans (hb16.mono (unhide B_98).size))
  clear B_98
  have A_109 := hide ((unhide A_99).below hb16)
  clear A_99
  have W_110 := hide ((unhide W_100).below hb16 (unhide W_100).le)
  clear W_100
  have X_111 := hide ((unhide X_101).below hb16)
  clear X_101
  have G_112 := hide ((unhide G_102).below hb16 (unhide G_102).le)
  clear G_102
  have T_113 := hide ((unhide T_103).below hb16 (unhide T_103).le)
  clear T_103
  have Tv_114 := hide ((unhide Tv_104).below hb16 (unhide Tv_104).le)
  clear Tv_104
  have Tx_115 := hide ((unhide Tx_105).below hb16 (unhide Tx_105).le)
  clear Tx_105
  have Tg_116 := hide ((unhide Tg_106).below hb16 (unhide Tg_106).le)
  clear Tg_106
  have H_117 := hide ((unhide H_107).below hb16 (unhide H_107).le)
  clear H_107
  clear hb16
  go_wp2_with fail
  go_ret
  exact ⟨rfl, (unhide B_108)⟩

set_option maxRecDepth 100000 in
theorem lifted (os : Os) (started : os.Started) (H : Type) (enc : TypeId × Value → H) :
    ReturnsInHanded {} Try.checked os 3 .any (Rows.fnExactCommittedSpec.pre6 enc Try.prog Try.f3 Rows.fnExactCommittedRow.domain false) (Rows.fnExactCommittedSpec.post enc Try.prog Try.f3 false true false false) := by
  refine returnsInHanded_of_change (C := Try.checked) own started (by kernel_rfl) Try.func3
    (ChangeSpec.witness6 (enc := enc) (C := Try.checked) false ⟨#[], #[.agg #[.int .i64 0, .int .i64 0, .int .i64 0, .int .i64 0, .int .i64 0, .bool false, .slice none 0 0, .int .i64 0, .int .i64 0, .int .i64 0, .slice none 0 0, .slice none 0 0, .slice none 0 0]], []⟩ 8 (by kernel_rfl) (by kernel_rfl) (by kernel_rfl) (by kernel_rfl)) ?_
  intro W base args ds gs before hval0 hW hcnd _
  have hval : ∀ (j : Nat) t v, Try.f3.params[j]? = some t → args[j]? = some v → Value.okWide Try.prog W .any base t v := hval0
  have hW' := hW
  obtain ⟨p, q, hA0, hV, rfl, hfz, hnd⟩ := hW
  have hA : DataW.TrodAll enc Try.prog W 0 (fun _ => true) true Try.f3.params.toList args.toList ds p := hA0
  rw [Try.params3] at hA hval
  obtain ⟨v0, vs0, d_0, ds0, p0, q0, hargs, rfl, rfl, h0, r0⟩ := trodAll_cons hA
  obtain ⟨rfl, rfl, rfl⟩ := trodAll_nil r0
  obtain rfl : args = #[v0] := by cases args; simp_all
  obtain ⟨rfl, rfl⟩ := trodVars_none hV
  have k0 := h0
  have lt0 : ∀ x ∈ p0, x.block < W.heap.size := by obtain ⟨m, hm⟩ := k0; exact DataW.trod_lt m _ _ _ hm
  obtain ⟨c0_0, c0_1, c0_2, c0_3, c0_4, c0_5, c0_6, c0_7, c0_8, c0_9, c0_10, c0_11, c0_12, u0_0, u0_1, u0_2, u0_3, u0_4, u0_5, u0_6, u0_7, u0_8, u0_9, u0_10, u0_11, u0_12, n0, rfl, z0_0, z0_1, z0_2, z0_3, z0_4, z0_5, z0_6, z0_7, z0_8, z0_9, z0_10, z0_11, z0_12⟩ := open_agg13 Try.underlying25 (by kernel_rfl) (by kernel_rfl) (hval 0 25 v0 rfl rfl) h0
  obtain ⟨id, e0_0, -, -⟩ := DataW.trod_int Try.underlying3 z0_0
  obtain rfl : c0_0 = .int .i64 id := by simpa using e0_0
  obtain ⟨nd, e0_1, -, -⟩ := DataW.trod_int Try.underlying3 z0_1
  obtain rfl : c0_1 = .int .i64 nd := by simpa using e0_1
  obtain ⟨tm, e0_2, -, -⟩ := DataW.trod_int Try.underlying3 z0_2
  obtain rfl : c0_2 = .int .i64 tm := by simpa using e0_2
  obtain ⟨vt, e0_3, -, -⟩ := DataW.trod_int Try.underlying3 z0_3
  obtain rfl : c0_3 = .int .i64 vt := by simpa using e0_3
  obtain ⟨ro, e0_4, -, -⟩ := DataW.trod_int Try.underlying3 z0_4
  obtain rfl : c0_4 = .int .i64 ro := by simpa using e0_4
  obtain ⟨up, e0_5, -⟩ := DataW.trod_bool Try.underlying4 z0_5
  obtain rfl : c0_5 = .bool up := by simpa using e0_5
  obtain ⟨a, n, cap, l, rfl, el_, ml_, sl, rl_⟩ := entries_field Try.underlying22 Try.underlying52 (by kernel_rfl) rfl rfl (by kernel_rfl) (by kernel_rfl) Try.underlying3 Try.underlying9 z0_6
  obtain ⟨cm, e0_7, -, -⟩ := DataW.trod_int Try.underlying3 z0_7
  obtain rfl : c0_7 = .int .i64 cm := by simpa using e0_7
  obtain ⟨el, e0_8, -, -⟩ := DataW.trod_int Try.underlying3 z0_8
  obtain rfl : c0_8 = .int .i64 el := by simpa using e0_8
  obtain ⟨wt, e0_9, -, -⟩ := DataW.trod_int Try.underlying3 z0_9
  obtain rfl : c0_9 = .int .i64 wt := by simpa using e0_9
  obtain ⟨av, nv, cv, lv, rfl, el_v, ml_v, rl_v⟩ := ints_field Try.underlying23 Try.underlying3 (by kernel_rfl) z0_10
  obtain ⟨ax, nx, cx, lx, rfl, el_x, ml_x, rl_x⟩ := ints_field Try.underlying23 Try.underlying3 (by kernel_rfl) z0_11
  obtain ⟨ag, ng, cg, lg, rfl, el_g, ml_g, rl_g⟩ := ints_field Try.underlying23 Try.underlying3 (by kernel_rfl) z0_12
  clear hA0 hval0
  refine (walk W id nd tm vt ro cm el wt up a n cap l el_ ml_ sl av nv cv lv el_v ml_v ax nx cx lx el_x ml_x ag ng cg lg el_g ml_g rl_ rl_v rl_x rl_g).mono fun e W' ⟨he, bel⟩ => ?_
  subst he
  exact ⟨_, rfl, _, _, _, [], _, [], hW', trodAll_mk1 (shut_bool Try.underlying4 _), (trodAll_cons_mk (Below.trod laidOut (by kernel_rfl) (of_decide_eq_true (by kernel_rfl)) k0 bel lt0) trodAll_mk0), rfl, bel.frame _, fun h => by cases h⟩

theorem over : Rows.fnExactCommittedRow.holds Try.pinned (OpenSpec.ofChange Rows.fnExactCommittedSpec) :=
  OpenClaim.holds_of_wide 3 Try.f3 rfl rfl rfl rfl rfl rfl rfl ⟨rfl, rfl, rfl, rfl, rfl⟩ rfl rfl rfl rfl rfl (by kernel_rfl) Try.func3 (by kernel_rfl)
    (of_decide_eq_true (by kernel_rfl)) (by unfold Func.isWrapper; first | (rw [if_pos (by decide +kernel)]; kernel_rfl) | (rw [if_neg (by decide +kernel)]; exact ⟨rfl, rfl⟩))
    (fun os started H enc _ => lifted os started H enc)

theorem proved : Rows.FnExactCommittedSaid := over
#print axioms proved
end Go.Proofs.Ytpbpcppkhifpgaa
