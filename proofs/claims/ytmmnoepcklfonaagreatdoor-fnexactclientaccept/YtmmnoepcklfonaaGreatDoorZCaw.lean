/- At every argument that can be read, with the listed variables as the program text lays them, the law FnExactClientAccept returns true and leaves its arguments as they were: the tied card. -/
import Derived.Test.YtmmnoepcklfonaaGreatDoorCards
import Derived.Test.YtmmnoepcklfonaaGreatDoorTie
import Derived.Test.YtmmnoepcklfonaaGreatDoorZG47
import Derived.Test.YtmmnoepcklfonaaGreatDoorZG48
import Derived.WalkKit
import Derived.ProofKit
import Derived.OpenShut
import Derived.ShutString
import Derived.ChangeOld
import Derived.Below
import Derived.OpenVars
import Derived.LaidMore
import Derived.Lay
import Derived.Stop.Joined
namespace Go.Proofs.YtmmnoepcklfonaaGreatDoor
open Go.ChangeShapes Go.WideShapes Go.ChangeAt Go.RowKit
open Go.ChangeMaps (open_string shut_string)
set_option linter.unusedVariables false

abbrev oCaw0 : Oper := { dst := some 40, op := .call { callee := .value (.func 7), args := #[.tmp 39], argTypes := #[26] }, type := 34, pos := "exact.go:6483", after := #[{ on := 1, ground := .data }], guard := none }
abbrev oCaw1 : Oper := { dst := some 10, op := .alloc 34, type := 0, pos := "exact.go:6483", after := #[], guard := none }
abbrev oCaw2 : Oper := { dst := some 42, op := .call { callee := .value (.func 8), args := #[.tmp 41], argTypes := #[29] }, type := 40, pos := "exact.go:6483", after := #[{ on := 3, ground := .data }, { on := 2, ground := .chain }], guard := none }
abbrev oCaw3 : Oper := { dst := some 44, op := .call { callee := .value (.func 6), args := #[.tmp 38, .tmp 40, .tmp 42, .tmp 43], argTypes := #[9, 34, 40, 9] }, type := 35, pos := "exact.go:6483", after := #[{ on := 0, ground := .data }, { on := 2, ground := .data }, { on := 4, ground := .data }, { on := 5, ground := .data }, { on := 4, ground := .chain }], guard := none }
abbrev oCaw4 : Oper := { dst := some 37, op := .move (.tmp 44), type := 35, pos := "exact.go:6483", after := #[{ on := 6, ground := .data }], guard := none }
abbrev oCaw5 : Oper := { dst := some 45, op := .extract (.tmp 37) 0, type := 34, pos := "exact.go:6483", after := #[{ on := 7, ground := .data }], guard := none }
abbrev oCaw6 : Oper := { dst := some 46, op := .extract (.tmp 37) 1, type := 3, pos := "exact.go:6483", after := #[{ on := 7, ground := .data }, { on := 11, ground := .gcOnly Go.Departure.lateStores }], guard := none }
abbrev oCaw7 : Oper := { dst := none, op := .store 34 (.tmp 10) (.tmp 45), type := 0, pos := "exact.go:6483", after := #[{ on := 10, ground := .data }, { on := 8, ground := .data }, { on := 6, ground := .chain }, { on := 0, ground := .phase }, { on := 1, ground := .phase }, { on := 2, ground := .phase }, { on := 3, ground := .phase }, { on := 4, ground := .phase }, { on := 5, ground := .phase }, { on := 6, ground := .phase }, { on := 7, ground := .phase }, { on := 8, ground := .phase }, { on := 9, ground := .textOnly Go.Departure.lateStores }, { on := 10, ground := .phase }], guard := none }
abbrev oCaw8 : Oper := { dst := some 11, op := .assign (.tmp 46), type := 3, pos := "exact.go:6483", after := #[{ on := 9, ground := .data }, { on := 11, ground := .chain }, { on := 0, ground := .phase }, { on := 1, ground := .phase }, { on := 2, ground := .phase }, { on := 3, ground := .phase }, { on := 4, ground := .phase }, { on := 5, ground := .phase }, { on := 6, ground := .phase }, { on := 7, ground := .phase }, { on := 8, ground := .phase }, { on := 9, ground := .phase }, { on := 10, ground := .phase }, { on := 11, ground := .phase }], guard := none }
abbrev oCaw9 : Oper := { dst := some 111, op := .call { callee := .value (.func 7), args := #[.tmp 110], argTypes := #[26] }, type := 34, pos := "exact.go:6512", after := #[{ on := 1, ground := .data }], guard := none }
abbrev oCaw10 : Oper := { dst := some 19, op := .alloc 34, type := 0, pos := "exact.go:6512", after := #[], guard := none }
abbrev oCaw11 : Oper := { dst := some 113, op := .call { callee := .value (.func 8), args := #[.tmp 112], argTypes := #[29] }, type := 40, pos := "exact.go:6512", after := #[{ on := 3, ground := .data }, { on := 2, ground := .chain }], guard := none }
abbrev oCaw12 : Oper := { dst := some 115, op := .call { callee := .value (.func 9), args := #[.tmp 109, .tmp 111, .tmp 113, .tmp 114], argTypes := #[9, 34, 40, 9] }, type := 35, pos := "exact.go:6512", after := #[{ on := 0, ground := .data }, { on := 2, ground := .data }, { on := 4, ground := .data }, { on := 5, ground := .data }, { on := 4, ground := .chain }], guard := none }
abbrev oCaw13 : Oper := { dst := some 108, op := .move (.tmp 115), type := 35, pos := "exact.go:6512", after := #[{ on := 6, ground := .data }], guard := none }
abbrev oCaw14 : Oper := { dst := some 116, op := .extract (.tmp 108) 0, type := 34, pos := "exact.go:6512", after := #[{ on := 7, ground := .data }], guard := none }
abbrev oCaw15 : Oper := { dst := some 117, op := .extract (.tmp 108) 1, type := 3, pos := "exact.go:6512", after := #[{ on := 7, ground := .data }, { on := 11, ground := .gcOnly Go.Departure.lateStores }], guard := none }
abbrev oCaw16 : Oper := { dst := none, op := .store 34 (.tmp 19) (.tmp 116), type := 0, pos := "exact.go:6512", after := #[{ on := 10, ground := .data }, { on := 8, ground := .data }, { on := 6, ground := .chain }, { on := 0, ground := .phase }, { on := 1, ground := .phase }, { on := 2, ground := .phase }, { on := 3, ground := .phase }, { on := 4, ground := .phase }, { on := 5, ground := .phase }, { on := 6, ground := .phase }, { on := 7, ground := .phase }, { on := 8, ground := .phase }, { on := 9, ground := .textOnly Go.Departure.lateStores }, { on := 10, ground := .phase }], guard := none }
abbrev oCaw17 : Oper := { dst := some 20, op := .assign (.tmp 117), type := 3, pos := "exact.go:6512", after := #[{ on := 9, ground := .data }, { on := 11, ground := .chain }, { on := 0, ground := .phase }, { on := 1, ground := .phase }, { on := 2, ground := .phase }, { on := 3, ground := .phase }, { on := 4, ground := .phase }, { on := 5, ground := .phase }, { on := 6, ground := .phase }, { on := 7, ground := .phase }, { on := 8, ground := .phase }, { on := 9, ground := .phase }, { on := 10, ground := .phase }, { on := 11, ground := .phase }], guard := none }
set_option maxHeartbeats 40000000 in
set_option maxRecDepth 100000 in
theorem walk (w : World) (a0 : ByteArray) (w0 : a0.size ≤ maxLen) (id : Int) (win tok : ByteArray) (nb vw vh : Int) (a : Option Addr) (n cap : Nat) (l : List ByteArray) (ww : win.size ≤ maxLen) (wk : tok.size ≤ maxLen) (ql : l.length = n) (ml : n ≤ maxLen) (sl : ∀ k (h : k < l.length), l[k].size ≤ maxLen) (rl : RowV w a (cS l)) (nbv frv : Int) (fuv : Bool) (vwv vhv : Int) (av : Option Addr) (nv capv : Nat) (lv : List (Int × ByteArray)) (qlv : lv.length = nv) (mlv : nv ≤ maxLen) (slv : ∀ k (h : k < lv.length), lv[k].2.size ≤ maxLen) (rlv : RowV w av (cE lv)) (a3 : ByteArray) (w3 : a3.size ≤ maxLen) (hT : PowIn w ∧ KIn w) :
    Calls Tryz.prog 3 #[.string a0, .agg #[.int .i64 id, .string win, .string tok, .int .i64 nb, .int .i64 vw, .int .i64 vh, .slice a n cap], .agg #[.int .i64 nbv, .int .i64 frv, .bool fuv, .int .i64 vwv, .int .i64 vhv, .slice av nv capv], .string a3] w fun e w' => e = .returned (.bool true) ∧ Below w.heap.size w w' := by
 have HWW := hide ww
 have HWK := hide wk
 have HP := hide hT.1
 have HK := hide hT.2
 clear hT ww wk w0 w3
 obtain ⟨id2, win2, tok2, nb2, vw2, vh2, L, c, his⟩ := ca_ex a0 a3 id win tok nb vw vh l nbv frv fuv vwv vhv lv
 have HIS := hide his
 have hL10 := ca_len his
 have nc : (c != c) = false := by simp
 obtain ⟨nL, hnL⟩ : ∃ nL, nL = L.length := ⟨_, rfl⟩
 have HNL : Hid (L.length = nL) := hnL.symm
 have hnL10 : nL ≤ 10 := by rw [hnL]; exact hL10
 have HN10 := hide hnL10
 obtain ⟨q, hq⟩ : ∃ q : Int, q = ((1 + nL : Nat) : Int) := ⟨_, rfl⟩
 have q1 : ¬ q < 0 := by omega
 have nq : (q != q) = false := by simp
 have HQ := hide hq
 obtain ⟨kx, hkx⟩ : ∃ kx : Nat, (kx : Int) = ((1 + n : Nat) : Int) := ⟨_, rfl⟩
 have HKX := hide hkx
 obtain ⟨ky, hky⟩ : ∃ ky : Nat, (ky : Int) = ((kx + nv * 2 : Nat) : Int) := ⟨_, rfl⟩
 have HKY := hide hky
 have hk0 : ¬ (ky : Int) < 0 := by omega
 clear his hq hkx hky hnL hL10 hnL10
 have HN := hide ql
 clear ql
 have HM := hide ml
 clear ml
 have HR := hide rl
 clear rl
 have HS := hide sl
 clear sl
 have HNv := hide qlv
 clear qlv
 have HMv := hide mlv
 clear mlv
 have HRv := hide rlv
 clear rlv
 have HSv := hide slv
 clear slv
 have B_1 := hide (Go.Joins.below_alloc2 w (.cells #[.int .i64 id, .string win, .string tok, .int .i64 nb, .int .i64 vw, .int .i64 vh, .slice a n cap] 26) (.cells #[.int .i64 nbv, .int .i64 frv, .bool fuv, .int .i64 vwv, .int .i64 vhv, .slice av nv capv] 29))
 have A_2 := hide ((BF.new w #[.int .i64 id, .string win, .string tok, .int .i64 nb, .int .i64 vw, .int .i64 vh, .slice a n cap] 26).alloc (.cells #[.int .i64 nbv, .int .i64 frv, .bool fuv, .int .i64 vwv, .int .i64 vhv, .slice av nv capv] 29))
 have Av_3 := hide (BF.new (w.alloc (.cells #[.int .i64 id, .string win, .string tok, .int .i64 nb, .int .i64 vw, .int .i64 vh, .slice a n cap] 26)) #[.int .i64 nbv, .int .i64 frv, .bool fuv, .int .i64 vwv, .int .i64 vhv, .slice av nv capv] 29)
 rw [show (w.alloc (.cells #[.int .i64 id, .string win, .string tok, .int .i64 nb, .int .i64 vw, .int .i64 vh, .slice a n cap] 26)).heap.size = w.heap.size + 1 from by simp] at Av_3
 by_cases big0 : 1048576 < a0.size
 ·
  have c0 : (1048576 : Int) < (a0.size : Int) := by omega
  go_enter Tryz.func3, Tryz.ntmps3
  go_wp2_with fail
  go_ret
  exact ⟨rfl, (unhide B_1)⟩
 have c0 : ¬ (1048576 : Int) < (a0.size : Int) := by omega
 by_cases big3 : 1048576 < a3.size
 ·
  have c3 : (1048576 : Int) < (a3.size : Int) := by omega
  go_enter Tryz.func3, Tryz.ntmps3
  go_wp2_with fail
  go_ret
  exact ⟨rfl, (unhide B_1)⟩
 have c3 : ¬ (1048576 : Int) < (a3.size : Int) := by omega
 have HKS : Hid (a0.size ≤ 1048576) := by show _ ≤ _; omega
 clear big0 big3
 go_enter Tryz.func3, Tryz.ntmps3
 have kA := (unhide A_2).S
 have kAv := (unhide Av_3).S
 go_wp2_with fail
 refine (szCl id win tok nb vw vh a cap n l HN (unhide HWW) (unhide HWK) 1048576 (Nat.le_refl _) HM HS _ ((unhide HR).below (unhide B_1))).mono ?_
 rintro e w1 ⟨x, rfl, hb1, hx⟩
 clear kA kAv
 have B_4 := hide ((unhide B_1).trans (hb1.mono (unhide B_1).size))
 clear B_1
 have A_5 := hide ((unhide A_2).below hb1)
 clear A_2
 have Av_6 := hide ((unhide Av_3).below hb1)
 clear Av_3
 clear hb1
 rcases hx with rfl | ⟨z, rfl, hz, hl, hs, hsw, hst⟩
 ·
  go_wp2_with fail
  go_ret
  exact ⟨rfl, (unhide B_4)⟩
 have hzn : ¬ (z : Int) < 0 := by omega
 have HSZ := hide hs
 have HL := hide hl
 have HY := hide hz
 have HWS := hide hsw
 have HTS := hide hst
 clear hs HM HS hl hz hsw hst
 have kA := (unhide A_5).S
 have kAv := (unhide Av_6).S
 go_wp2_with fail
 refine (szVw nbv frv vwv vhv fuv av capv nv lv HNv z (by have := unhide HY; omega) HMv HSv _ ((unhide HRv).below (unhide B_4))).mono ?_
 rintro e w2 ⟨x, rfl, hb2, hx⟩
 clear kA kAv
 have B_7 := hide ((unhide B_4).trans (hb2.mono (unhide B_4).size))
 clear B_4
 have A_8 := hide ((unhide A_5).below hb2)
 clear A_5
 have Av_9 := hide ((unhide Av_6).below hb2)
 clear Av_6
 clear hb2
 rcases hx with rfl | ⟨zv, rfl, hzv, hlv, hsv⟩
 ·
  go_wp2_with fail
  go_ret
  exact ⟨rfl, (unhide B_7)⟩
 have hznv : ¬ (zv : Int) < 0 := by omega
 have HSZv := hide hsv
 have HLv := hide hlv
 have HYv := hide hzv
 clear hsv HMv HSv hlv hzv
 have HKB : Hid (0 < kx ∧ kx + nv * 2 ≤ 3000000 ∧ n ≤ 2000000) := by show _ ∧ _ ∧ _; have := unhide HY; have := unhide HYv; have := unhide HKX; omega
 go_wp2_with fail
 refine Code.wp_mono (Q := fun x a' v' => match x with | .normal => (∃ (PW : Nat) (aW : Option Addr) (cW loW hiW gWC gWV : Nat), a' = ⟨(Value.string a0 :: Value.agg #[.int .i64 id, .string win, .string tok, .int .i64 nb, .int .i64 vw, .int .i64 vh, .slice a n cap] :: Value.agg #[.int .i64 nbv, .int .i64 frv, .bool fuv, .int .i64 vwv, .int .i64 vhv, .slice av nv capv] :: Value.string a3 :: undef :: Value.pointer (some ⟨w.heap.size, 0, none⟩) :: Value.pointer (some ⟨w.heap.size + 1, 0, none⟩) :: undef :: Value.bool false :: Value.int .i64 (zv : Int) :: Value.pointer (some ⟨PW, 0, none⟩) :: Value.int .i64 c :: undef :: undef :: undef :: undef :: undef :: undef :: undef :: undef :: undef :: Value.string a0 :: Value.int .i64 (a0.size : Int) :: Value.bool false :: Value.string a3 :: Value.int .i64 (a3.size : Int) :: Value.bool false :: Value.agg #[.int .i64 id, .string win, .string tok, .int .i64 nb, .int .i64 vw, .int .i64 vh, .slice a n cap] :: Value.int .i64 1048576 :: Value.int .i64 (z : Int) :: Value.int .i64 (z : Int) :: Value.bool (decide ((z : Int) < 0)) :: Value.agg #[.int .i64 nbv, .int .i64 frv, .bool fuv, .int .i64 vwv, .int .i64 vhv, .slice av nv capv] :: Value.int .i64 (z : Int) :: Value.int .i64 (zv : Int) :: Value.int .i64 (zv : Int) :: Value.bool (decide ((zv : Int) < 0)) :: Value.tuple #[.agg #[.int .i64 id2, .string win2, .string tok2, .int .i64 nb2, .int .i64 vw2, .int .i64 vh2, .slice aW nL cW], .int .i64 c] :: Value.string a0 :: Value.agg #[.int .i64 id, .string win, .string tok, .int .i64 nb, .int .i64 vw, .int .i64 vh, .slice a n cap] :: Value.agg #[.int .i64 id, .string win, .string tok, .int .i64 nb, .int .i64 vw, .int .i64 vh, .slice (some ⟨gWC, 0, none⟩) n n] :: Value.agg #[.int .i64 nbv, .int .i64 frv, .bool fuv, .int .i64 vwv, .int .i64 vhv, .slice av nv capv] :: Value.agg #[.int .i64 nbv, .int .i64 frv, .bool fuv, .int .i64 vwv, .int .i64 vhv, .slice (some ⟨gWV, 0, none⟩) nv nv] :: Value.string a3 :: Value.tuple #[.agg #[.int .i64 id2, .string win2, .string tok2, .int .i64 nb2, .int .i64 vw2, .int .i64 vh2, .slice aW nL cW], .int .i64 c] :: Value.agg #[.int .i64 id2, .string win2, .string tok2, .int .i64 nb2, .int .i64 vw2, .int .i64 vh2, .slice aW nL cW] :: Value.int .i64 c :: undef :: undef :: undef :: undef :: undef :: undef :: undef :: undef :: undef :: undef :: undef :: undef :: undef :: undef :: undef :: undef :: undef :: undef :: undef :: undef :: undef :: undef :: undef :: undef :: undef :: undef :: undef :: undef :: undef :: undef :: undef :: undef :: undef :: undef :: undef :: undef :: undef :: undef :: undef :: undef :: undef :: undef :: undef :: undef :: undef :: undef :: undef :: undef :: undef :: undef :: undef :: undef :: undef :: undef :: undef :: undef :: undef :: undef :: undef :: undef :: undef :: undef :: undef :: undef :: undef :: undef :: undef :: undef :: undef :: undef :: undef :: undef :: undef :: undef :: undef :: undef :: undef :: undef :: undef :: undef :: undef :: undef :: undef :: undef :: undef :: undef :: undef :: undef :: []).toArray, []⟩ ∧ Below w.heap.size w v' ∧ BF w.heap.size #[.int .i64 id, .string win, .string tok, .int .i64 nb, .int .i64 vw, .int .i64 vh, .slice a n cap] v' ∧ BF (w.heap.size + 1) #[.int .i64 nbv, .int .i64 frv, .bool fuv, .int .i64 vwv, .int .i64 vhv, .slice av nv capv] v' ∧ Held v' loW hiW 9 (.slice aW nL cW) nL (cS L) ∧ BF PW #[.int .i64 id2, .string win2, .string tok2, .int .i64 nb2, .int .i64 vw2, .int .i64 vh2, .slice aW nL cW] v') | _ => False) ?_ ?_
 rotate_left
 ·
  refine wp_region_held_drew (S := (fun w' => (∀ o, w'.cell? ⟨w.heap.size, o, none⟩ = (#[.int .i64 id, .string win, .string tok, .int .i64 nb, .int .i64 vw, .int .i64 vh, .slice a n cap] : Array Value)[o]?) ∧ (∀ o, w'.cell? ⟨(w.heap.size + 1), o, none⟩ = (#[.int .i64 nbv, .int .i64 frv, .bool fuv, .int .i64 vwv, .int .i64 vhv, .slice av nv capv] : Array Value)[o]?))) (by kernel_rfl) ⟨(unhide A_8).S, (unhide Av_9).S⟩ (fun hHeld => ?_)
  have B_10 := hide ((unhide B_7).drew)
  clear B_7
  have A_11 := hide ((unhide A_8).drew)
  clear A_8
  have Av_12 := hide ((unhide Av_9).drew)
  clear Av_9
  generalize w2.drew = w3 at B_10 A_11 Av_12 hHeld ⊢
  refine wtk (i := 0) (oi := { dst := some 38, op := .move (.tmp 0), type := 9, pos := "exact.go:6483", after := #[], guard := none }) (v := ?_) rfl (Or.inl ⟨by rfl, ?_⟩) (by assumption) ?_
  rotate_left 1
  · (intro w' hSw; (try dsimp only at hSw); go_simp; try with_reducible rfl)
  try simp only [Act.put, qqA, qqB, qqC]
  refine wtk (i := 1) (oi := { dst := some 39, op := .load 26 (.tmp 5), type := 26, pos := "exact.go:6483", after := #[], guard := none }) (v := ?_) rfl (Or.inl ⟨by rfl, ?_⟩) (by assumption) ?_
  rotate_left 1
  · (intro w' hSw; (try dsimp only at hSw); go_simp; try with_reducible rfl)
  try simp only [Act.put, qqA, qqB, qqC]
  refine wtk (i := 3) (oi := { dst := some 41, op := .load 29 (.tmp 6), type := 29, pos := "exact.go:6483", after := #[], guard := none }) (v := ?_) rfl (Or.inl ⟨by rfl, ?_⟩) (by assumption) ?_
  rotate_left 1
  · (intro w' hSw; (try dsimp only at hSw); go_simp; try with_reducible rfl)
  try simp only [Act.put, qqA, qqB, qqC]
  refine wtk (i := 5) (oi := { dst := some 43, op := .move (.tmp 3), type := 9, pos := "exact.go:6483", after := #[], guard := none }) (v := ?_) rfl (Or.inl ⟨by rfl, ?_⟩) (by assumption) ?_
  rotate_left 1
  · (intro w' hSw; (try dsimp only at hSw); go_simp; try with_reducible rfl)
  try simp only [Act.put, qqA, qqB, qqC]
  refine wpAnyH_ready (rs := [2, 10]) (by kernel_rfl) (by simp) ?_
  refine AllReadyH.cons (o := oCaw0) rfl (fun K hK => ?_) (AllReadyH.cons (o := oCaw1) rfl (fun K hK => ?_) AllReadyH.nil)
  ·
   go_simp
   refine (toCl id win tok nb vw vh a cap n l HN (unhide HL) _ ((unhide HR).below (unhide B_10))).mono ?_
   rintro e w4 ⟨g4, rfl, o4, hb4⟩
   have zc4 := hb4.size
   have B_13 := hide ((unhide B_10).trans (hb4.mono (unhide B_10).size))
   clear B_10
   have A_14 := hide ((unhide A_11).below hb4)
   clear A_11
   have Av_15 := hide ((unhide Av_12).below hb4)
   clear Av_12
   clear hb4
   have WT2_16 := hide (held_of o4)
   clear o4
   go_wp2_with fail
   refine hK.out _ _ ?_ (fun hHeldW2 => ?_)
   · exact ⟨(unhide A_14).S, (unhide Av_15).S⟩
   clear hK K
   try simp only [Act.put, qqA, qqB, qqC]
   refine wpAnyH_ready (rs := [4, 10]) (by kernel_rfl) (by simp) ?_
   refine AllReadyH.cons (o := oCaw2) rfl (fun K hK => ?_) (AllReadyH.cons (o := oCaw1) rfl (fun K hK => ?_) AllReadyH.nil)
   ·
    go_simp
    refine (toVw nbv frv vwv vhv fuv av capv nv lv HNv (unhide HLv) _ ((unhide HRv).below (unhide B_13))).mono ?_
    rintro e w5 ⟨g5, rfl, o5, hb5⟩
    have zc5 := hb5.size
    have B_17 := hide ((unhide B_13).trans (hb5.mono (unhide B_13).size))
    clear B_13
    have A_18 := hide ((unhide A_14).below hb5)
    clear A_14
    have Av_19 := hide ((unhide Av_15).below hb5)
    clear Av_15
    have WT2_20 := hide ((unhide WT2_16).below hb5 (unhide WT2_16).le)
    clear WT2_16
    clear hb5
    have WT4_21 := hide (heldZ_of o5)
    clear o5
    go_wp2_with fail
    refine hK.out _ _ ?_ (fun hHeldW4 => ?_)
    · exact ⟨(unhide A_18).S, (unhide Av_19).S⟩
    clear hK K
    try simp only [Act.put, qqA, qqB, qqC]
    refine wpAnyH_ready (rs := [6, 10]) (by kernel_rfl) (by simp) ?_
    refine AllReadyH.cons (o := oCaw3) rfl (fun K hK => ?_) (AllReadyH.cons (o := oCaw1) rfl (fun K hK => ?_) AllReadyH.nil)
    ·
     go_simp
     refine (sclacc a0 id win tok nb vw vh _ _ n l HN (unhide HL) HSZ nbv frv fuv vwv vhv _ _ nv lv HNv (unhide HLv) HSZv a3 HKS HWS id2 win2 tok2 nb2 vw2 vh2 L c HIS _ (unhide WT2_20).rowV (unhide WT4_21).rowV ).mono ?_
     rintro e w6 ⟨vW, rfl, hoW, hb6⟩
     have zc6 := hb6.size
     have B_22 := hide ((unhide B_17).trans (hb6.mono (unhide B_17).size))
     clear B_17
     have A_23 := hide ((unhide A_18).below hb6)
     clear A_18
     have Av_24 := hide ((unhide Av_19).below hb6)
     clear Av_19
     have WT2_25 := hide ((unhide WT2_20).below hb6 (unhide WT2_20).le)
     clear WT2_20
     have WT4_26 := hide ((unhide WT4_21).below hb6 (unhide WT4_21).le)
     clear WT4_21
     clear hb6
     clear WT2_25
     clear WT4_26
     obtain ⟨aW, cW, rfl, -⟩ := own_rowV hoW
     rw [unhide HNL] at hoW
     rw [unhide HNL]
     obtain ⟨loW, hiW, eloW, ehiW⟩ : ∃ lo hi, lo = w5.heap.size ∧ hi = w6.heap.size := ⟨_, _, rfl, rfl⟩
     have W_27 := hide (held_of hoW)
     rw [← eloW, ← ehiW] at W_27
     clear hoW eloW ehiW
     go_wp2_with fail
     refine hK.out _ _ ?_ (fun hHeldW6 => ?_)
     · exact ⟨(unhide A_23).S, (unhide Av_24).S⟩
     clear hK K
     try simp only [Act.put, qqA, qqB, qqC]
     refine wtk (i := 7) (oi := oCaw4) (v := ?_) rfl (Or.inl ⟨by rfl, ?_⟩) (by assumption) ?_
     rotate_left 1
     · (intro w' hSw; (try dsimp only at hSw); go_simp; try with_reducible rfl)
     try simp only [Act.put, qqA, qqB, qqC]
     refine wtk (i := 8) (oi := oCaw5) (v := ?_) rfl (Or.inl ⟨by rfl, ?_⟩) (by assumption) ?_
     rotate_left 1
     · (intro w' hSw; (try dsimp only at hSw); go_simp; try with_reducible rfl)
     try simp only [Act.put, qqA, qqB, qqC]
     refine wtk (i := 9) (oi := oCaw6) (v := ?_) rfl (Or.inl ⟨by rfl, ?_⟩) (by assumption) ?_
     rotate_left 1
     · (intro w' hSw; (try dsimp only at hSw); go_simp; try with_reducible rfl)
     try simp only [Act.put, qqA, qqB, qqC]
     refine wpAnyH_ready (rs := [10]) (by kernel_rfl) (by simp) ?_
     refine AllReadyH.cons (o := oCaw1) rfl (fun K hK => ?_) AllReadyH.nil
     obtain ⟨PW, hP⟩ : ∃ P, P = w6.heap.size := ⟨_, rfl⟩
     have zPW : w.heap.size + 1 < PW := by rw [hP]; exact (unhide Av_24).lt
     have zPWW : hiW ≤ PW := by rw [hP]; exact (unhide W_27).le
     have B_28 := hide ((unhide B_22).alloc (unhide B_22).size (.cells #[.int .i64 0, .string ⟨#[]⟩, .string ⟨#[]⟩, .int .i64 0, .int .i64 0, .int .i64 0, .slice none 0 0] 34))
     clear B_22
     have A_29 := hide ((unhide A_23).alloc (.cells #[.int .i64 0, .string ⟨#[]⟩, .string ⟨#[]⟩, .int .i64 0, .int .i64 0, .int .i64 0, .slice none 0 0] 34))
     clear A_23
     have Av_30 := hide ((unhide Av_24).alloc (.cells #[.int .i64 0, .string ⟨#[]⟩, .string ⟨#[]⟩, .int .i64 0, .int .i64 0, .int .i64 0, .slice none 0 0] 34))
     clear Av_24
     have W_31 := hide ((unhide W_27).below (Go.Joins.below_alloc1 _ (.cells #[.int .i64 0, .string ⟨#[]⟩, .string ⟨#[]⟩, .int .i64 0, .int .i64 0, .int .i64 0, .slice none 0 0] 34)) (unhide W_27).le)
     clear W_27
     have bW_32 := hide (BF.new w6 #[.int .i64 0, .string ⟨#[]⟩, .string ⟨#[]⟩, .int .i64 0, .int .i64 0, .int .i64 0, .slice none 0 0] 34)
     rw [← hP] at bW_32
     go_simp
     refine hK.out _ _ ?_ (fun hHeldWA => ?_)
     · exact ⟨(unhide A_29).S, (unhide Av_30).S⟩
     clear hK K
     try simp only [Act.put, qqA, qqB, qqC]
     rw [← hP]
     clear hP
     generalize w6.alloc (.cells #[.int .i64 0, .string ⟨#[]⟩, .string ⟨#[]⟩, .int .i64 0, .int .i64 0, .int .i64 0, .slice none 0 0] 34) = w7 at B_28 A_29 Av_30 W_31 bW_32 hHeldWA ⊢
     refine wpAnyH_ready (rs := [11]) (by kernel_rfl) (by simp) ?_
     refine AllReadyH.cons (o := oCaw7) rfl (fun K hK => ?_) AllReadyH.nil
     have kn := (unhide bW_32).S
     have knf := (unhide bW_32).F
     obtain ⟨w8, hw8, hF8, hg8⟩ := put7G w7 (unhide bW_32) (.int .i64 id2) (.string win2) (.string tok2) (.int .i64 nb2) (.int .i64 vw2) (.int .i64 vh2) (.slice aW nL cW)
     have hne8 : ∀ q, q ≠ PW → (some PW : Option Nat) ≠ some q := fun q h e => h (Option.some.inj e).symm
     have B_33 := hide ((unhide B_28).grown hg8 (unhide B_28).size (fun k hk => by have e : PW = k := Option.some.inj hk; omega))
     clear B_28
     have A_34 := hide ((unhide A_29).grown hg8 (hne8 _ (by omega)))
     clear A_29
     have Av_35 := hide ((unhide Av_30).grown hg8 (hne8 _ (by omega)))
     clear Av_30
     have W_36 := hide ((unhide W_31).grown hg8 (fun k hk => by have e : PW = k := Option.some.inj hk; omega))
     clear W_31
     have bW_37 := hide (hF8)
     clear bW_32
     go_simp
     rw [← hw8]
     refine hK.out _ _ ?_ (fun hHeldWS => ?_)
     · exact ⟨(unhide A_34).S, (unhide Av_35).S⟩
     clear hK K
     try simp only [Act.put, qqA, qqB, qqC]
     clear kn knf hw8 hF8 hg8 hne8
     refine wtk (i := 12) (oi := oCaw8) (v := ?_) rfl (Or.inl ⟨by rfl, ?_⟩) (by assumption) ?_
     rotate_left 1
     · (intro w' hSw; (try dsimp only at hSw); go_simp; try with_reducible rfl)
     try simp only [Act.put, qqA, qqB, qqC]
     refine wpAnyH_done (by kernel_rfl) ?_ _
     exact ⟨PW, aW, cW, loW, hiW, _, _, rfl, (unhide B_33), (unhide A_34), (unhide Av_35), (unhide W_36), (unhide bW_37)⟩
    ·
     obtain ⟨PW, hP⟩ : ∃ P, P = w5.heap.size := ⟨_, rfl⟩
     have zPW : w.heap.size + 1 < PW := by rw [hP]; exact (unhide Av_19).lt
     have B_22 := hide ((unhide B_17).alloc (unhide B_17).size (.cells #[.int .i64 0, .string ⟨#[]⟩, .string ⟨#[]⟩, .int .i64 0, .int .i64 0, .int .i64 0, .slice none 0 0] 34))
     clear B_17
     have A_23 := hide ((unhide A_18).alloc (.cells #[.int .i64 0, .string ⟨#[]⟩, .string ⟨#[]⟩, .int .i64 0, .int .i64 0, .int .i64 0, .slice none 0 0] 34))
     clear A_18
     have Av_24 := hide ((unhide Av_19).alloc (.cells #[.int .i64 0, .string ⟨#[]⟩, .string ⟨#[]⟩, .int .i64 0, .int .i64 0, .int .i64 0, .slice none 0 0] 34))
     clear Av_19
     have WT2_25 := hide ((unhide WT2_20).below (Go.Joins.below_alloc1 _ (.cells #[.int .i64 0, .string ⟨#[]⟩, .string ⟨#[]⟩, .int .i64 0, .int .i64 0, .int .i64 0, .slice none 0 0] 34)) (unhide WT2_20).le)
     clear WT2_20
     have WT4_26 := hide ((unhide WT4_21).below (Go.Joins.below_alloc1 _ (.cells #[.int .i64 0, .string ⟨#[]⟩, .string ⟨#[]⟩, .int .i64 0, .int .i64 0, .int .i64 0, .slice none 0 0] 34)) (unhide WT4_21).le)
     clear WT4_21
     have bW_27 := hide (BF.new w5 #[.int .i64 0, .string ⟨#[]⟩, .string ⟨#[]⟩, .int .i64 0, .int .i64 0, .int .i64 0, .slice none 0 0] 34)
     rw [← hP] at bW_27
     go_simp
     refine hK.out _ _ ?_ (fun hHeldWA => ?_)
     · exact ⟨(unhide A_23).S, (unhide Av_24).S⟩
     clear hK K
     try simp only [Act.put, qqA, qqB, qqC]
     rw [← hP]
     clear hP
     generalize w5.alloc (.cells #[.int .i64 0, .string ⟨#[]⟩, .string ⟨#[]⟩, .int .i64 0, .int .i64 0, .int .i64 0, .slice none 0 0] 34) = w6 at B_22 A_23 Av_24 WT2_25 WT4_26 bW_27 hHeldWA ⊢
     refine wpAnyH_ready (rs := [6]) (by kernel_rfl) (by simp) ?_
     refine AllReadyH.cons (o := oCaw3) rfl (fun K hK => ?_) AllReadyH.nil
     have HPLW : Hid (PW < w6.heap.size) := (unhide bW_27).lt
     go_simp
     refine (sclacc a0 id win tok nb vw vh _ _ n l HN (unhide HL) HSZ nbv frv fuv vwv vhv _ _ nv lv HNv (unhide HLv) HSZv a3 HKS HWS id2 win2 tok2 nb2 vw2 vh2 L c HIS _ (unhide WT2_25).rowV (unhide WT4_26).rowV ).mono ?_
     rintro e w7 ⟨vW, rfl, hoW, hb7⟩
     have zc7 := hb7.size
     have B_28 := hide ((unhide B_22).trans (hb7.mono (unhide B_22).size))
     clear B_22
     have A_29 := hide ((unhide A_23).below hb7)
     clear A_23
     have Av_30 := hide ((unhide Av_24).below hb7)
     clear Av_24
     have WT2_31 := hide ((unhide WT2_25).below hb7 (unhide WT2_25).le)
     clear WT2_25
     have WT4_32 := hide ((unhide WT4_26).below hb7 (unhide WT4_26).le)
     clear WT4_26
     have bW_33 := hide ((unhide bW_27).below hb7)
     clear bW_27
     clear hb7
     clear WT2_31
     clear WT4_32
     obtain ⟨aW, cW, rfl, -⟩ := own_rowV hoW
     rw [unhide HNL] at hoW
     rw [unhide HNL]
     obtain ⟨loW, hiW, eloW, ehiW⟩ : ∃ lo hi, lo = w6.heap.size ∧ hi = w7.heap.size := ⟨_, _, rfl, rfl⟩
     have W_34 := hide (held_of hoW)
     rw [← eloW, ← ehiW] at W_34
     have zPWr : PW < loW := by rw [eloW]; exact unhide HPLW
     clear hoW eloW ehiW
     go_wp2_with fail
     refine hK.out _ _ ?_ (fun hHeldW6 => ?_)
     · exact ⟨(unhide A_29).S, (unhide Av_30).S⟩
     clear hK K
     try simp only [Act.put, qqA, qqB, qqC]
     refine wtk (i := 7) (oi := oCaw4) (v := ?_) rfl (Or.inl ⟨by rfl, ?_⟩) (by assumption) ?_
     rotate_left 1
     · (intro w' hSw; (try dsimp only at hSw); go_simp; try with_reducible rfl)
     try simp only [Act.put, qqA, qqB, qqC]
     refine wtk (i := 8) (oi := oCaw5) (v := ?_) rfl (Or.inl ⟨by rfl, ?_⟩) (by assumption) ?_
     rotate_left 1
     · (intro w' hSw; (try dsimp only at hSw); go_simp; try with_reducible rfl)
     try simp only [Act.put, qqA, qqB, qqC]
     refine wtk (i := 9) (oi := oCaw6) (v := ?_) rfl (Or.inl ⟨by rfl, ?_⟩) (by assumption) ?_
     rotate_left 1
     · (intro w' hSw; (try dsimp only at hSw); go_simp; try with_reducible rfl)
     try simp only [Act.put, qqA, qqB, qqC]
     refine wpAnyH_ready (rs := [11]) (by kernel_rfl) (by simp) ?_
     refine AllReadyH.cons (o := oCaw7) rfl (fun K hK => ?_) AllReadyH.nil
     have kn := (unhide bW_33).S
     have knf := (unhide bW_33).F
     obtain ⟨w8, hw8, hF8, hg8⟩ := put7G w7 (unhide bW_33) (.int .i64 id2) (.string win2) (.string tok2) (.int .i64 nb2) (.int .i64 vw2) (.int .i64 vh2) (.slice aW nL cW)
     have hne8 : ∀ q, q ≠ PW → (some PW : Option Nat) ≠ some q := fun q h e => h (Option.some.inj e).symm
     have B_35 := hide ((unhide B_28).grown hg8 (unhide B_28).size (fun k hk => by have e : PW = k := Option.some.inj hk; omega))
     clear B_28
     have A_36 := hide ((unhide A_29).grown hg8 (hne8 _ (by omega)))
     clear A_29
     have Av_37 := hide ((unhide Av_30).grown hg8 (hne8 _ (by omega)))
     clear Av_30
     have W_38 := hide ((unhide W_34).grown hg8 (fun k hk => by have e : PW = k := Option.some.inj hk; omega))
     clear W_34
     have bW_39 := hide (hF8)
     clear bW_33
     go_simp
     rw [← hw8]
     refine hK.out _ _ ?_ (fun hHeldWS => ?_)
     · exact ⟨(unhide A_36).S, (unhide Av_37).S⟩
     clear hK K
     try simp only [Act.put, qqA, qqB, qqC]
     clear kn knf hw8 hF8 hg8 hne8
     refine wtk (i := 12) (oi := oCaw8) (v := ?_) rfl (Or.inl ⟨by rfl, ?_⟩) (by assumption) ?_
     rotate_left 1
     · (intro w' hSw; (try dsimp only at hSw); go_simp; try with_reducible rfl)
     try simp only [Act.put, qqA, qqB, qqC]
     refine wpAnyH_done (by kernel_rfl) ?_ _
     exact ⟨PW, aW, cW, loW, hiW, _, _, rfl, (unhide B_35), (unhide A_36), (unhide Av_37), (unhide W_38), (unhide bW_39)⟩
   ·
    obtain ⟨PW, hP⟩ : ∃ P, P = w4.heap.size := ⟨_, rfl⟩
    have zPW : w.heap.size + 1 < PW := by rw [hP]; exact (unhide Av_15).lt
    have B_17 := hide ((unhide B_13).alloc (unhide B_13).size (.cells #[.int .i64 0, .string ⟨#[]⟩, .string ⟨#[]⟩, .int .i64 0, .int .i64 0, .int .i64 0, .slice none 0 0] 34))
    clear B_13
    have A_18 := hide ((unhide A_14).alloc (.cells #[.int .i64 0, .string ⟨#[]⟩, .string ⟨#[]⟩, .int .i64 0, .int .i64 0, .int .i64 0, .slice none 0 0] 34))
    clear A_14
    have Av_19 := hide ((unhide Av_15).alloc (.cells #[.int .i64 0, .string ⟨#[]⟩, .string ⟨#[]⟩, .int .i64 0, .int .i64 0, .int .i64 0, .slice none 0 0] 34))
    clear Av_15
    have WT2_20 := hide ((unhide WT2_16).below (Go.Joins.below_alloc1 _ (.cells #[.int .i64 0, .string ⟨#[]⟩, .string ⟨#[]⟩, .int .i64 0, .int .i64 0, .int .i64 0, .slice none 0 0] 34)) (unhide WT2_16).le)
    clear WT2_16
    have bW_21 := hide (BF.new w4 #[.int .i64 0, .string ⟨#[]⟩, .string ⟨#[]⟩, .int .i64 0, .int .i64 0, .int .i64 0, .slice none 0 0] 34)
    rw [← hP] at bW_21
    go_simp
    refine hK.out _ _ ?_ (fun hHeldWA => ?_)
    · exact ⟨(unhide A_18).S, (unhide Av_19).S⟩
    clear hK K
    try simp only [Act.put, qqA, qqB, qqC]
    rw [← hP]
    clear hP
    generalize w4.alloc (.cells #[.int .i64 0, .string ⟨#[]⟩, .string ⟨#[]⟩, .int .i64 0, .int .i64 0, .int .i64 0, .slice none 0 0] 34) = w5 at B_17 A_18 Av_19 WT2_20 bW_21 hHeldWA ⊢
    refine wpAnyH_ready (rs := [4]) (by kernel_rfl) (by simp) ?_
    refine AllReadyH.cons (o := oCaw2) rfl (fun K hK => ?_) AllReadyH.nil
    go_simp
    refine (toVw nbv frv vwv vhv fuv av capv nv lv HNv (unhide HLv) _ ((unhide HRv).below (unhide B_17))).mono ?_
    rintro e w6 ⟨g6, rfl, o6, hb6⟩
    have zc6 := hb6.size
    have B_22 := hide ((unhide B_17).trans (hb6.mono (unhide B_17).size))
    clear B_17
    have A_23 := hide ((unhide A_18).below hb6)
    clear A_18
    have Av_24 := hide ((unhide Av_19).below hb6)
    clear Av_19
    have WT2_25 := hide ((unhide WT2_20).below hb6 (unhide WT2_20).le)
    clear WT2_20
    have bW_26 := hide ((unhide bW_21).below hb6)
    clear bW_21
    clear hb6
    have WT4_27 := hide (heldZ_of o6)
    clear o6
    go_wp2_with fail
    refine hK.out _ _ ?_ (fun hHeldW4 => ?_)
    · exact ⟨(unhide A_23).S, (unhide Av_24).S⟩
    clear hK K
    try simp only [Act.put, qqA, qqB, qqC]
    refine wpAnyH_ready (rs := [6]) (by kernel_rfl) (by simp) ?_
    refine AllReadyH.cons (o := oCaw3) rfl (fun K hK => ?_) AllReadyH.nil
    have HPLW : Hid (PW < w6.heap.size) := (unhide bW_26).lt
    go_simp
    refine (sclacc a0 id win tok nb vw vh _ _ n l HN (unhide HL) HSZ nbv frv fuv vwv vhv _ _ nv lv HNv (unhide HLv) HSZv a3 HKS HWS id2 win2 tok2 nb2 vw2 vh2 L c HIS _ (unhide WT2_25).rowV (unhide WT4_27).rowV ).mono ?_
    rintro e w7 ⟨vW, rfl, hoW, hb7⟩
    have zc7 := hb7.size
    have B_28 := hide ((unhide B_22).trans (hb7.mono (unhide B_22).size))
    clear B_22
    have A_29 := hide ((unhide A_23).below hb7)
    clear A_23
    have Av_30 := hide ((unhide Av_24).below hb7)
    clear Av_24
    have WT2_31 := hide ((unhide WT2_25).below hb7 (unhide WT2_25).le)
    clear WT2_25
    have bW_32 := hide ((unhide bW_26).below hb7)
    clear bW_26
    have WT4_33 := hide ((unhide WT4_27).below hb7 (unhide WT4_27).le)
    clear WT4_27
    clear hb7
    clear WT2_31
    clear WT4_33
    obtain ⟨aW, cW, rfl, -⟩ := own_rowV hoW
    rw [unhide HNL] at hoW
    rw [unhide HNL]
    obtain ⟨loW, hiW, eloW, ehiW⟩ : ∃ lo hi, lo = w6.heap.size ∧ hi = w7.heap.size := ⟨_, _, rfl, rfl⟩
    have W_34 := hide (held_of hoW)
    rw [← eloW, ← ehiW] at W_34
    have zPWr : PW < loW := by rw [eloW]; exact unhide HPLW
    clear hoW eloW ehiW
    go_wp2_with fail
    refine hK.out _ _ ?_ (fun hHeldW6 => ?_)
    · exact ⟨(unhide A_29).S, (unhide Av_30).S⟩
    clear hK K
    try simp only [Act.put, qqA, qqB, qqC]
    refine wtk (i := 7) (oi := oCaw4) (v := ?_) rfl (Or.inl ⟨by rfl, ?_⟩) (by assumption) ?_
    rotate_left 1
    · (intro w' hSw; (try dsimp only at hSw); go_simp; try with_reducible rfl)
    try simp only [Act.put, qqA, qqB, qqC]
    refine wtk (i := 8) (oi := oCaw5) (v := ?_) rfl (Or.inl ⟨by rfl, ?_⟩) (by assumption) ?_
    rotate_left 1
    · (intro w' hSw; (try dsimp only at hSw); go_simp; try with_reducible rfl)
    try simp only [Act.put, qqA, qqB, qqC]
    refine wtk (i := 9) (oi := oCaw6) (v := ?_) rfl (Or.inl ⟨by rfl, ?_⟩) (by assumption) ?_
    rotate_left 1
    · (intro w' hSw; (try dsimp only at hSw); go_simp; try with_reducible rfl)
    try simp only [Act.put, qqA, qqB, qqC]
    refine wpAnyH_ready (rs := [11]) (by kernel_rfl) (by simp) ?_
    refine AllReadyH.cons (o := oCaw7) rfl (fun K hK => ?_) AllReadyH.nil
    have kn := (unhide bW_32).S
    have knf := (unhide bW_32).F
    obtain ⟨w8, hw8, hF8, hg8⟩ := put7G w7 (unhide bW_32) (.int .i64 id2) (.string win2) (.string tok2) (.int .i64 nb2) (.int .i64 vw2) (.int .i64 vh2) (.slice aW nL cW)
    have hne8 : ∀ q, q ≠ PW → (some PW : Option Nat) ≠ some q := fun q h e => h (Option.some.inj e).symm
    have B_35 := hide ((unhide B_28).grown hg8 (unhide B_28).size (fun k hk => by have e : PW = k := Option.some.inj hk; omega))
    clear B_28
    have A_36 := hide ((unhide A_29).grown hg8 (hne8 _ (by omega)))
    clear A_29
    have Av_37 := hide ((unhide Av_30).grown hg8 (hne8 _ (by omega)))
    clear Av_30
    have W_38 := hide ((unhide W_34).grown hg8 (fun k hk => by have e : PW = k := Option.some.inj hk; omega))
    clear W_34
    have bW_39 := hide (hF8)
    clear bW_32
    go_simp
    rw [← hw8]
    refine hK.out _ _ ?_ (fun hHeldWS => ?_)
    · exact ⟨(unhide A_36).S, (unhide Av_37).S⟩
    clear hK K
    try simp only [Act.put, qqA, qqB, qqC]
    clear kn knf hw8 hF8 hg8 hne8
    refine wtk (i := 12) (oi := oCaw8) (v := ?_) rfl (Or.inl ⟨by rfl, ?_⟩) (by assumption) ?_
    rotate_left 1
    · (intro w' hSw; (try dsimp only at hSw); go_simp; try with_reducible rfl)
    try simp only [Act.put, qqA, qqB, qqC]
    refine wpAnyH_done (by kernel_rfl) ?_ _
    exact ⟨PW, aW, cW, loW, hiW, _, _, rfl, (unhide B_35), (unhide A_36), (unhide Av_37), (unhide W_38), (unhide bW_39)⟩
  ·
   obtain ⟨PW, hP⟩ : ∃ P, P = w3.heap.size := ⟨_, rfl⟩
   have zPW : w.heap.size + 1 < PW := by rw [hP]; exact (unhide Av_12).lt
   have B_13 := hide ((unhide B_10).alloc (unhide B_10).size (.cells #[.int .i64 0, .string ⟨#[]⟩, .string ⟨#[]⟩, .int .i64 0, .int .i64 0, .int .i64 0, .slice none 0 0] 34))
   clear B_10
   have A_14 := hide ((unhide A_11).alloc (.cells #[.int .i64 0, .string ⟨#[]⟩, .string ⟨#[]⟩, .int .i64 0, .int .i64 0, .int .i64 0, .slice none 0 0] 34))
   clear A_11
   have Av_15 := hide ((unhide Av_12).alloc (.cells #[.int .i64 0, .string ⟨#[]⟩, .string ⟨#[]⟩, .int .i64 0, .int .i64 0, .int .i64 0, .slice none 0 0] 34))
   clear Av_12
   have bW_16 := hide (BF.new w3 #[.int .i64 0, .string ⟨#[]⟩, .string ⟨#[]⟩, .int .i64 0, .int .i64 0, .int .i64 0, .slice none 0 0] 34)
   rw [← hP] at bW_16
   go_simp
   refine hK.out _ _ ?_ (fun hHeldWA => ?_)
   · exact ⟨(unhide A_14).S, (unhide Av_15).S⟩
   clear hK K
   try simp only [Act.put, qqA, qqB, qqC]
   rw [← hP]
   clear hP
   generalize w3.alloc (.cells #[.int .i64 0, .string ⟨#[]⟩, .string ⟨#[]⟩, .int .i64 0, .int .i64 0, .int .i64 0, .slice none 0 0] 34) = w4 at B_13 A_14 Av_15 bW_16 hHeldWA ⊢
   refine wpAnyH_ready (rs := [2]) (by kernel_rfl) (by simp) ?_
   refine AllReadyH.cons (o := oCaw0) rfl (fun K hK => ?_) AllReadyH.nil
   go_simp
   refine (toCl id win tok nb vw vh a cap n l HN (unhide HL) _ ((unhide HR).below (unhide B_13))).mono ?_
   rintro e w5 ⟨g5, rfl, o5, hb5⟩
   have zc5 := hb5.size
   have B_17 := hide ((unhide B_13).trans (hb5.mono (unhide B_13).size))
   clear B_13
   have A_18 := hide ((unhide A_14).below hb5)
   clear A_14
   have Av_19 := hide ((unhide Av_15).below hb5)
   clear Av_15
   have bW_20 := hide ((unhide bW_16).below hb5)
   clear bW_16
   clear hb5
   have WT2_21 := hide (held_of o5)
   clear o5
   go_wp2_with fail
   refine hK.out _ _ ?_ (fun hHeldW2 => ?_)
   · exact ⟨(unhide A_18).S, (unhide Av_19).S⟩
   clear hK K
   try simp only [Act.put, qqA, qqB, qqC]
   refine wpAnyH_ready (rs := [4]) (by kernel_rfl) (by simp) ?_
   refine AllReadyH.cons (o := oCaw2) rfl (fun K hK => ?_) AllReadyH.nil
   go_simp
   refine (toVw nbv frv vwv vhv fuv av capv nv lv HNv (unhide HLv) _ ((unhide HRv).below (unhide B_17))).mono ?_
   rintro e w6 ⟨g6, rfl, o6, hb6⟩
   have zc6 := hb6.size
   have B_22 := hide ((unhide B_17).trans (hb6.mono (unhide B_17).size))
   clear B_17
   have A_23 := hide ((unhide A_18).below hb6)
   clear A_18
   have Av_24 := hide ((unhide Av_19).below hb6)
   clear Av_19
   have bW_25 := hide ((unhide bW_20).below hb6)
   clear bW_20
   have WT2_26 := hide ((unhide WT2_21).below hb6 (unhide WT2_21).le)
   clear WT2_21
   clear hb6
   have WT4_27 := hide (heldZ_of o6)
   clear o6
   go_wp2_with fail
   refine hK.out _ _ ?_ (fun hHeldW4 => ?_)
   · exact ⟨(unhide A_23).S, (unhide Av_24).S⟩
   clear hK K
   try simp only [Act.put, qqA, qqB, qqC]
   refine wpAnyH_ready (rs := [6]) (by kernel_rfl) (by simp) ?_
   refine AllReadyH.cons (o := oCaw3) rfl (fun K hK => ?_) AllReadyH.nil
   have HPLW : Hid (PW < w6.heap.size) := (unhide bW_25).lt
   go_simp
   refine (sclacc a0 id win tok nb vw vh _ _ n l HN (unhide HL) HSZ nbv frv fuv vwv vhv _ _ nv lv HNv (unhide HLv) HSZv a3 HKS HWS id2 win2 tok2 nb2 vw2 vh2 L c HIS _ (unhide WT2_26).rowV (unhide WT4_27).rowV ).mono ?_
   rintro e w7 ⟨vW, rfl, hoW, hb7⟩
   have zc7 := hb7.size
   have B_28 := hide ((unhide B_22).trans (hb7.mono (unhide B_22).size))
   clear B_22
   have A_29 := hide ((unhide A_23).below hb7)
   clear A_23
   have Av_30 := hide ((unhide Av_24).below hb7)
   clear Av_24
   have bW_31 := hide ((unhide bW_25).below hb7)
   clear bW_25
   have WT2_32 := hide ((unhide WT2_26).below hb7 (unhide WT2_26).le)
   clear WT2_26
   have WT4_33 := hide ((unhide WT4_27).below hb7 (unhide WT4_27).le)
   clear WT4_27
   clear hb7
   clear WT2_32
   clear WT4_33
   obtain ⟨aW, cW, rfl, -⟩ := own_rowV hoW
   rw [unhide HNL] at hoW
   rw [unhide HNL]
   obtain ⟨loW, hiW, eloW, ehiW⟩ : ∃ lo hi, lo = w6.heap.size ∧ hi = w7.heap.size := ⟨_, _, rfl, rfl⟩
   have W_34 := hide (held_of hoW)
   rw [← eloW, ← ehiW] at W_34
   have zPWr : PW < loW := by rw [eloW]; exact unhide HPLW
   clear hoW eloW ehiW
   go_wp2_with fail
   refine hK.out _ _ ?_ (fun hHeldW6 => ?_)
   · exact ⟨(unhide A_29).S, (unhide Av_30).S⟩
   clear hK K
   try simp only [Act.put, qqA, qqB, qqC]
   refine wtk (i := 7) (oi := oCaw4) (v := ?_) rfl (Or.inl ⟨by rfl, ?_⟩) (by assumption) ?_
   rotate_left 1
   · (intro w' hSw; (try dsimp only at hSw); go_simp; try with_reducible rfl)
   try simp only [Act.put, qqA, qqB, qqC]
   refine wtk (i := 8) (oi := oCaw5) (v := ?_) rfl (Or.inl ⟨by rfl, ?_⟩) (by assumption) ?_
   rotate_left 1
   · (intro w' hSw; (try dsimp only at hSw); go_simp; try with_reducible rfl)
   try simp only [Act.put, qqA, qqB, qqC]
   refine wtk (i := 9) (oi := oCaw6) (v := ?_) rfl (Or.inl ⟨by rfl, ?_⟩) (by assumption) ?_
   rotate_left 1
   · (intro w' hSw; (try dsimp only at hSw); go_simp; try with_reducible rfl)
   try simp only [Act.put, qqA, qqB, qqC]
   refine wpAnyH_ready (rs := [11]) (by kernel_rfl) (by simp) ?_
   refine AllReadyH.cons (o := oCaw7) rfl (fun K hK => ?_) AllReadyH.nil
   have kn := (unhide bW_31).S
   have knf := (unhide bW_31).F
   obtain ⟨w8, hw8, hF8, hg8⟩ := put7G w7 (unhide bW_31) (.int .i64 id2) (.string win2) (.string tok2) (.int .i64 nb2) (.int .i64 vw2) (.int .i64 vh2) (.slice aW nL cW)
   have hne8 : ∀ q, q ≠ PW → (some PW : Option Nat) ≠ some q := fun q h e => h (Option.some.inj e).symm
   have B_35 := hide ((unhide B_28).grown hg8 (unhide B_28).size (fun k hk => by have e : PW = k := Option.some.inj hk; omega))
   clear B_28
   have A_36 := hide ((unhide A_29).grown hg8 (hne8 _ (by omega)))
   clear A_29
   have Av_37 := hide ((unhide Av_30).grown hg8 (hne8 _ (by omega)))
   clear Av_30
   have W_38 := hide ((unhide W_34).grown hg8 (fun k hk => by have e : PW = k := Option.some.inj hk; omega))
   clear W_34
   have bW_39 := hide (hF8)
   clear bW_31
   go_simp
   rw [← hw8]
   refine hK.out _ _ ?_ (fun hHeldWS => ?_)
   · exact ⟨(unhide A_36).S, (unhide Av_37).S⟩
   clear hK K
   try simp only [Act.put, qqA, qqB, qqC]
   clear kn knf hw8 hF8 hg8 hne8
   refine wtk (i := 12) (oi := oCaw8) (v := ?_) rfl (Or.inl ⟨by rfl, ?_⟩) (by assumption) ?_
   rotate_left 1
   · (intro w' hSw; (try dsimp only at hSw); go_simp; try with_reducible rfl)
   try simp only [Act.put, qqA, qqB, qqC]
   refine wpAnyH_done (by kernel_rfl) ?_ _
   exact ⟨PW, aW, cW, loW, hiW, _, _, rfl, (unhide B_35), (unhide A_36), (unhide Av_37), (unhide W_38), (unhide bW_39)⟩
 clear B_7 A_8 Av_9
 intro x a' vW hq
 cases x
 all_goals try exact False.elim hq
 obtain ⟨PW, aW, cW, loW, hiW, gWC, gWV, rfl, h_B, h_A, h_Av, h_W, h_bW⟩ := hq
 have B_rW := hide h_B
 clear h_B
 have A_rW := hide h_A
 clear h_A
 have Av_rW := hide h_Av
 clear h_Av
 have W_rW := hide h_W
 clear h_W
 have bW_rW := hide h_bW
 clear h_bW
 have zEW : PW < vW.heap.size := (unhide bW_rW).lt
 have zHW : hiW ≤ vW.heap.size := (unhide W_rW).le
 have zAW : w.heap.size + 1 < vW.heap.size := (unhide Av_rW).lt
 have kA := (unhide A_rW).S
 have kAv := (unhide Av_rW).S
 go_wp2_with fail
 refine (toCl id win tok nb vw vh a cap n l HN (unhide HL) _ ((unhide HR).below (unhide B_rW))).mono ?_
 rintro e w100 ⟨g100, rfl, o100, hb100⟩
 clear kA kAv
 have z100 : vW.heap.size ≤ w100.heap.size := by have := hb100.size; (try simp at this); omega
 have B_10 := hide ((unhide B_rW).trans (hb100.mono (unhide B_rW).size))
 clear B_rW
 have A_11 := hide ((unhide A_rW).below hb100)
 clear A_rW
 have Av_12 := hide ((unhide Av_rW).below hb100)
 clear Av_rW
 have W_13 := hide ((unhide W_rW).below hb100 (unhide W_rW).le)
 clear W_rW
 have bW_14 := hide ((unhide bW_rW).below hb100)
 clear bW_rW
 clear hb100
 have X_15 := hide (held_of o100)
 clear o100
 try simp only [World.size_alloc] at X_15
 have B_16 := hide ((unhide B_10).alloc (unhide B_10).size (.cells #[.int .i64 id, .string win, .string tok, .int .i64 nb, .int .i64 vw, .int .i64 vh, .slice (some ⟨g100, 0, none⟩) n n] 34))
 clear B_10
 have A_17 := hide ((unhide A_11).alloc (.cells #[.int .i64 id, .string win, .string tok, .int .i64 nb, .int .i64 vw, .int .i64 vh, .slice (some ⟨g100, 0, none⟩) n n] 34))
 clear A_11
 have Av_18 := hide ((unhide Av_12).alloc (.cells #[.int .i64 id, .string win, .string tok, .int .i64 nb, .int .i64 vw, .int .i64 vh, .slice (some ⟨g100, 0, none⟩) n n] 34))
 clear Av_12
 have W_19 := hide ((unhide W_13).below (Go.Joins.below_alloc1 _ (.cells #[.int .i64 id, .string win, .string tok, .int .i64 nb, .int .i64 vw, .int .i64 vh, .slice (some ⟨g100, 0, none⟩) n n] 34)) (unhide W_13).le)
 clear W_13
 have bW_20 := hide ((unhide bW_14).alloc (.cells #[.int .i64 id, .string win, .string tok, .int .i64 nb, .int .i64 vw, .int .i64 vh, .slice (some ⟨g100, 0, none⟩) n n] 34))
 clear bW_14
 have X_21 := hide ((unhide X_15).below (Go.Joins.below_alloc1 _ (.cells #[.int .i64 id, .string win, .string tok, .int .i64 nb, .int .i64 vw, .int .i64 vh, .slice (some ⟨g100, 0, none⟩) n n] 34)) (unhide X_15).le)
 clear X_15
 have bX_22 := hide (BF.new w100 #[.int .i64 id, .string win, .string tok, .int .i64 nb, .int .i64 vw, .int .i64 vh, .slice (some ⟨g100, 0, none⟩) n n] 34)
 have kA := (unhide A_17).S
 have kAv := (unhide Av_18).S
 go_wp2_with fail
 refine (toVw nbv frv vwv vhv fuv av capv nv lv HNv (unhide HLv) _ ((unhide HRv).below (unhide B_16))).mono ?_
 rintro e w101 ⟨g101, rfl, o101, hb101⟩
 clear kA kAv
 have z101 : w100.heap.size + 1 ≤ w101.heap.size := by have := hb101.size; (try simp at this); omega
 have B_23 := hide ((unhide B_16).trans (hb101.mono (unhide B_16).size))
 clear B_16
 have A_24 := hide ((unhide A_17).below hb101)
 clear A_17
 have Av_25 := hide ((unhide Av_18).below hb101)
 clear Av_18
 have W_26 := hide ((unhide W_19).below hb101 (unhide W_19).le)
 clear W_19
 have bW_27 := hide ((unhide bW_20).below hb101)
 clear bW_20
 have X_28 := hide ((unhide X_21).below hb101 (unhide X_21).le)
 clear X_21
 have bX_29 := hide ((unhide bX_22).below hb101)
 clear bX_22
 clear hb101
 have Y_30 := hide (heldZ_of o101)
 clear o101
 try simp only [World.size_alloc] at Y_30
 have B_31 := hide ((unhide B_23).alloc (unhide B_23).size (.cells #[.int .i64 nbv, .int .i64 frv, .bool fuv, .int .i64 vwv, .int .i64 vhv, .slice (some ⟨g101, 0, none⟩) nv nv] 40))
 clear B_23
 have A_32 := hide ((unhide A_24).alloc (.cells #[.int .i64 nbv, .int .i64 frv, .bool fuv, .int .i64 vwv, .int .i64 vhv, .slice (some ⟨g101, 0, none⟩) nv nv] 40))
 clear A_24
 have Av_33 := hide ((unhide Av_25).alloc (.cells #[.int .i64 nbv, .int .i64 frv, .bool fuv, .int .i64 vwv, .int .i64 vhv, .slice (some ⟨g101, 0, none⟩) nv nv] 40))
 clear Av_25
 have W_34 := hide ((unhide W_26).below (Go.Joins.below_alloc1 _ (.cells #[.int .i64 nbv, .int .i64 frv, .bool fuv, .int .i64 vwv, .int .i64 vhv, .slice (some ⟨g101, 0, none⟩) nv nv] 40)) (unhide W_26).le)
 clear W_26
 have bW_35 := hide ((unhide bW_27).alloc (.cells #[.int .i64 nbv, .int .i64 frv, .bool fuv, .int .i64 vwv, .int .i64 vhv, .slice (some ⟨g101, 0, none⟩) nv nv] 40))
 clear bW_27
 have X_36 := hide ((unhide X_28).below (Go.Joins.below_alloc1 _ (.cells #[.int .i64 nbv, .int .i64 frv, .bool fuv, .int .i64 vwv, .int .i64 vhv, .slice (some ⟨g101, 0, none⟩) nv nv] 40)) (unhide X_28).le)
 clear X_28
 have bX_37 := hide ((unhide bX_29).alloc (.cells #[.int .i64 nbv, .int .i64 frv, .bool fuv, .int .i64 vwv, .int .i64 vhv, .slice (some ⟨g101, 0, none⟩) nv nv] 40))
 clear bX_29
 have Y_38 := hide ((unhide Y_30).below (Go.Joins.below_alloc1 _ (.cells #[.int .i64 nbv, .int .i64 frv, .bool fuv, .int .i64 vwv, .int .i64 vhv, .slice (some ⟨g101, 0, none⟩) nv nv] 40)) (unhide Y_30).le)
 clear Y_30
 have bY_39 := hide (BF.new w101 #[.int .i64 nbv, .int .i64 frv, .bool fuv, .int .i64 vwv, .int .i64 vhv, .slice (some ⟨g101, 0, none⟩) nv nv] 40)
 have kbX := (unhide bX_37).S
 have kbY := (unhide bY_39).S
 go_wp2_with fail
 refine (iclacc a0 id win tok nb vw vh _ _ n l HN (unhide HL) HSZ nbv frv fuv vwv vhv _ _ nv lv HNv (unhide HLv) HSZv a3 HKS HWS id2 win2 tok2 nb2 vw2 vh2 L c HIS _ (unhide X_36).rowV (unhide Y_38).rowV ((unhide HP).below (unhide B_31) (unhide HP).pos) ((unhide HK).below (unhide B_31) (unhide HK).pos)).mono ?_
 rintro e w102 ⟨vG, rfl, hoG, hb102⟩
 clear kbX kbY
 have z102 : w101.heap.size + 1 ≤ w102.heap.size := by have := hb102.size; (try simp at this); omega
 have B_40 := hide ((unhide B_31).trans (hb102.mono (unhide B_31).size))
 clear B_31
 have A_41 := hide ((unhide A_32).below hb102)
 clear A_32
 have Av_42 := hide ((unhide Av_33).below hb102)
 clear Av_33
 have W_43 := hide ((unhide W_34).below hb102 (unhide W_34).le)
 clear W_34
 have bW_44 := hide ((unhide bW_35).below hb102)
 clear bW_35
 have X_45 := hide ((unhide X_36).below hb102 (unhide X_36).le)
 clear X_36
 have bX_46 := hide ((unhide bX_37).below hb102)
 clear bX_37
 have Y_47 := hide ((unhide Y_38).below hb102 (unhide Y_38).le)
 clear Y_38
 have bY_48 := hide ((unhide bY_39).below hb102)
 clear bY_39
 clear hb102
 obtain ⟨aG, cG, rfl, -⟩ := own_rowV hoG
 rw [unhide HNL] at hoG
 have G_49 := hide (held_of hoG)
 clear hoG
 try simp only [World.size_alloc] at G_49
 rw [unhide HNL]
 have B_50 := hide ((unhide B_40).alloc (unhide B_40).size (.cells #[.int .i64 id2, .string win2, .string tok2, .int .i64 nb2, .int .i64 vw2, .int .i64 vh2, .slice aG nL cG] 34))
 clear B_40
 have A_51 := hide ((unhide A_41).alloc (.cells #[.int .i64 id2, .string win2, .string tok2, .int .i64 nb2, .int .i64 vw2, .int .i64 vh2, .slice aG nL cG] 34))
 clear A_41
 have Av_52 := hide ((unhide Av_42).alloc (.cells #[.int .i64 id2, .string win2, .string tok2, .int .i64 nb2, .int .i64 vw2, .int .i64 vh2, .slice aG nL cG] 34))
 clear Av_42
 have W_53 := hide ((unhide W_43).below (Go.Joins.below_alloc1 _ (.cells #[.int .i64 id2, .string win2, .string tok2, .int .i64 nb2, .int .i64 vw2, .int .i64 vh2, .slice aG nL cG] 34)) (unhide W_43).le)
 clear W_43
 have bW_54 := hide ((unhide bW_44).alloc (.cells #[.int .i64 id2, .string win2, .string tok2, .int .i64 nb2, .int .i64 vw2, .int .i64 vh2, .slice aG nL cG] 34))
 clear bW_44
 have X_55 := hide ((unhide X_45).below (Go.Joins.below_alloc1 _ (.cells #[.int .i64 id2, .string win2, .string tok2, .int .i64 nb2, .int .i64 vw2, .int .i64 vh2, .slice aG nL cG] 34)) (unhide X_45).le)
 clear X_45
 have bX_56 := hide ((unhide bX_46).alloc (.cells #[.int .i64 id2, .string win2, .string tok2, .int .i64 nb2, .int .i64 vw2, .int .i64 vh2, .slice aG nL cG] 34))
 clear bX_46
 have Y_57 := hide ((unhide Y_47).below (Go.Joins.below_alloc1 _ (.cells #[.int .i64 id2, .string win2, .string tok2, .int .i64 nb2, .int .i64 vw2, .int .i64 vh2, .slice aG nL cG] 34)) (unhide Y_47).le)
 clear Y_47
 have bY_58 := hide ((unhide bY_48).alloc (.cells #[.int .i64 id2, .string win2, .string tok2, .int .i64 nb2, .int .i64 vw2, .int .i64 vh2, .slice aG nL cG] 34))
 clear bY_48
 have G_59 := hide ((unhide G_49).below (Go.Joins.below_alloc1 _ (.cells #[.int .i64 id2, .string win2, .string tok2, .int .i64 nb2, .int .i64 vw2, .int .i64 vh2, .slice aG nL cG] 34)) (unhide G_49).le)
 clear G_49
 have bG_60 := hide (BF.new w102 #[.int .i64 id2, .string win2, .string tok2, .int .i64 nb2, .int .i64 vw2, .int .i64 vh2, .slice aG nL cG] 34)
 have kbG := (unhide bG_60).S
 have kbW := (unhide bW_54).S
 go_wp2_with fail
 refine (eqCl id2 win2 tok2 nb2 vw2 vh2 aG aW cG cW nL L HNL (Nat.le_trans (unhide HN10) (by decide)) _ (unhide G_59).rowV (unhide W_53).rowV).mono ?_
 rintro e w103 ⟨rfl, hb103⟩
 clear kbG kbW
 have B_61 := hide ((unhide B_50).trans (hb103.mono (unhide B_50).size))
 clear B_50
 have A_62 := hide ((unhide A_51).below hb103)
 clear A_51
 have Av_63 := hide ((unhide Av_52).below hb103)
 clear Av_52
 have W_64 := hide ((unhide W_53).below hb103 (unhide W_53).le)
 clear W_53
 have bW_65 := hide ((unhide bW_54).below hb103)
 clear bW_54
 have X_66 := hide ((unhide X_55).below hb103 (unhide X_55).le)
 clear X_55
 have bX_67 := hide ((unhide bX_56).below hb103)
 clear bX_56
 have Y_68 := hide ((unhide Y_57).below hb103 (unhide Y_57).le)
 clear Y_57
 have bY_69 := hide ((unhide bY_58).below hb103)
 clear bY_58
 have G_70 := hide ((unhide G_59).below hb103 (unhide G_59).le)
 clear G_59
 have bG_71 := hide ((unhide bG_60).below hb103)
 clear bG_60
 clear hb103
 have K6 := And.intro (unhide A_62).S (unhide bX_67).S
 have HU6 := hide (unhide X_66).rowV
 have LA : w.heap.size < _ := (unhide A_62).lt
 have LX : w100.heap.size < _ := (unhide bX_67).lt
 go_wp2_with fail
 go_region_held3 (fun w' => (∀ o, w'.cell? ⟨w.heap.size, o, none⟩ = (#[.int .i64 id, .string win, .string tok, .int .i64 nb, .int .i64 vw, .int .i64 vh, .slice a n cap] : Array Value)[o]?) ∧ (∀ o, w'.cell? ⟨w100.heap.size, o, none⟩ = (#[.int .i64 id, .string win, .string tok, .int .i64 nb, .int .i64 vw, .int .i64 vh, .slice (some ⟨g100, 0, none⟩) n n] : Array Value)[o]?)) (first | exact K6 | exact K7 | exact K8) (first | (go_at_call 7; refine (toCl id win tok nb vw vh a cap n l HN (unhide HL) _ ((unhide HR).below (unhide B_61).drew)).mono ?_; rintro e w104 ⟨g104, rfl, o104, hb104⟩; have K7 := And.intro (fun o => (hb104.cell (p := ⟨w.heap.size, o, none⟩) LA).trans (K6.1 o)) (fun o => (hb104.cell (p := ⟨w100.heap.size, o, none⟩) LX).trans (K6.2 o)); have HO7 := hide (rowZ_at o104); have HU7 := hide ((unhide HU6).below (below_undrew hb104)); have HT7 := hide (below_undrew hb104); have LA7 := Nat.lt_of_lt_of_le LA (unhide HT7).size; have LX7 := Nat.lt_of_lt_of_le LX (unhide HT7).size; clear o104 hb104) | (go_at_call 10; refine (eqCl id win tok nb vw vh _ _ _ _ n l HN (unhide HL) _ (unhide HU7) (unhide HO7)).mono ?_; rintro e w105 ⟨rfl, hb105⟩; have K8 := And.intro (fun o => (hb105.cell (p := ⟨w.heap.size, o, none⟩) LA7).trans (K7.1 o)) (fun o => (hb105.cell (p := ⟨w100.heap.size, o, none⟩) LX7).trans (K7.2 o)); have HT8 := hide ((unhide HT7).trans (hb105.mono (unhide HT7).size)); clear hb105))
 clear K6 K7 K8 HO7 HU6 HU7 HT7 LA LX LA7 LX7
 have B_72 := hide ((unhide B_61).trans ((unhide HT8).mono (unhide B_61).size))
 clear B_61
 have A_73 := hide ((unhide A_62).below (unhide HT8))
 clear A_62
 have Av_74 := hide ((unhide Av_63).below (unhide HT8))
 clear Av_63
 have W_75 := hide ((unhide W_64).below (unhide HT8) (unhide W_64).le)
 clear W_64
 have bW_76 := hide ((unhide bW_65).below (unhide HT8))
 clear bW_65
 have X_77 := hide ((unhide X_66).below (unhide HT8) (unhide X_66).le)
 clear X_66
 have bX_78 := hide ((unhide bX_67).below (unhide HT8))
 clear bX_67
 have Y_79 := hide ((unhide Y_68).below (unhide HT8) (unhide Y_68).le)
 clear Y_68
 have bY_80 := hide ((unhide bY_69).below (unhide HT8))
 clear bY_69
 have G_81 := hide ((unhide G_70).below (unhide HT8) (unhide G_70).le)
 clear G_70
 have bG_82 := hide ((unhide bG_71).below (unhide HT8))
 clear bG_71
 clear HT8
 have K6 := And.intro (unhide Av_74).S (unhide bY_80).S
 have HU6 := hide (unhide Y_79).rowV
 have LA : (w.heap.size + 1) < _ := (unhide Av_74).lt
 have LX : w101.heap.size < _ := (unhide bY_80).lt
 go_wp2_with fail
 go_region_held3 (fun w' => (∀ o, w'.cell? ⟨(w.heap.size + 1), o, none⟩ = (#[.int .i64 nbv, .int .i64 frv, .bool fuv, .int .i64 vwv, .int .i64 vhv, .slice av nv capv] : Array Value)[o]?) ∧ (∀ o, w'.cell? ⟨w101.heap.size, o, none⟩ = (#[.int .i64 nbv, .int .i64 frv, .bool fuv, .int .i64 vwv, .int .i64 vhv, .slice (some ⟨g101, 0, none⟩) nv nv] : Array Value)[o]?)) (first | exact K6 | exact K7 | exact K8) (first | (go_at_call 8; refine (toVw nbv frv vwv vhv fuv av capv nv lv HNv (unhide HLv) _ ((unhide HRv).below (unhide B_72).drew)).mono ?_; rintro e w106 ⟨g106, rfl, o106, hb106⟩; have K7 := And.intro (fun o => (hb106.cell (p := ⟨(w.heap.size + 1), o, none⟩) LA).trans (K6.1 o)) (fun o => (hb106.cell (p := ⟨w101.heap.size, o, none⟩) LX).trans (K6.2 o)); have HO7 := hide (rowZ_at o106); have HU7 := hide ((unhide HU6).below (below_undrew hb106)); have HT7 := hide (below_undrew hb106); have LA7 := Nat.lt_of_lt_of_le LA (unhide HT7).size; have LX7 := Nat.lt_of_lt_of_le LX (unhide HT7).size; clear o106 hb106) | (go_at_call 11; refine (eqVw nbv frv vwv vhv fuv _ _ _ _ nv lv HNv (unhide HLv) _ (unhide HU7) (unhide HO7)).mono ?_; rintro e w107 ⟨rfl, hb107⟩; have K8 := And.intro (fun o => (hb107.cell (p := ⟨(w.heap.size + 1), o, none⟩) LA7).trans (K7.1 o)) (fun o => (hb107.cell (p := ⟨w101.heap.size, o, none⟩) LX7).trans (K7.2 o)); have HT8 := hide ((unhide HT7).trans (hb107.mono (unhide HT7).size)); clear hb107))
 clear K6 K7 K8 HO7 HU6 HU7 HT7 LA LX LA7 LX7
 have B_83 := hide ((unhide B_72).trans ((unhide HT8).mono (unhide B_72).size))
 clear B_72
 have A_84 := hide ((unhide A_73).below (unhide HT8))
 clear A_73
 have Av_85 := hide ((unhide Av_74).below (unhide HT8))
 clear Av_74
 have W_86 := hide ((unhide W_75).below (unhide HT8) (unhide W_75).le)
 clear W_75
 have bW_87 := hide ((unhide bW_76).below (unhide HT8))
 clear bW_76
 have X_88 := hide ((unhide X_77).below (unhide HT8) (unhide X_77).le)
 clear X_77
 have bX_89 := hide ((unhide bX_78).below (unhide HT8))
 clear bX_78
 have Y_90 := hide ((unhide Y_79).below (unhide HT8) (unhide Y_79).le)
 clear Y_79
 have bY_91 := hide ((unhide bY_80).below (unhide HT8))
 clear bY_80
 have G_92 := hide ((unhide G_81).below (unhide HT8) (unhide G_81).le)
 clear G_81
 have bG_93 := hide ((unhide bG_82).below (unhide HT8))
 clear bG_82
 clear HT8
 have kbX := (unhide bX_89).S
 go_wp2_with fail
 refine (markCl id win tok nb vw vh _ n _ _ _ 1 (kx : Int) HKX _ (by decide) (by decide) (unhide HKB).2.2 _ (unhide X_88)).mono ?_
 rintro e w108 ⟨rfl, h108, hg108⟩
 clear kbX
 have B_94 := hide (Below.marked (unhide B_83) (unhide B_83).size (unhide X_88) (by omega) hg108)
 clear B_83
 have A_95 := hide ((unhide A_84).grown hg108 (fun hk => by have := (unhide X_88).blk _ hk; omega))
 clear A_84
 have Av_96 := hide ((unhide Av_85).grown hg108 (fun hk => by have := (unhide X_88).blk _ hk; omega))
 clear Av_85
 have W_97 := hide ((unhide W_86).grown hg108 (fun k hk => by have := (unhide X_88).blk k hk; omega))
 clear W_86
 have bW_98 := hide ((unhide bW_87).grown hg108 (fun hk => by have := (unhide X_88).blk _ hk; omega))
 clear bW_87
 have bX_99 := hide ((unhide bX_89).grown hg108 (fun hk => by have := (unhide X_88).blk _ hk; omega))
 clear bX_89
 have Y_100 := hide ((unhide Y_90).grown hg108 (fun k hk => by have := (unhide X_88).blk k hk; omega))
 clear Y_90
 have bY_101 := hide ((unhide bY_91).grown hg108 (fun hk => by have := (unhide X_88).blk _ hk; omega))
 clear bY_91
 have G_102 := hide ((unhide G_92).grown hg108 (fun k hk => by have := (unhide X_88).blk k hk; omega))
 clear G_92
 have bG_103 := hide ((unhide bG_93).grown hg108 (fun hk => by have := (unhide X_88).blk _ hk; omega))
 clear bG_93
 have X_m108 := hide h108
 clear h108 hg108 X_88
 clear X_m108
 clear bX_99
 have kbY := (unhide bY_101).S
 go_wp2_with fail
 refine (markVw nbv frv vwv vhv fuv _ nv _ _ _ kx (ky : Int) HKY _ (unhide HKB).1 (unhide HKB).2.1 _ (unhide Y_100)).mono ?_
 rintro e w109 ⟨rfl, h109, hg109⟩
 clear kbY
 have B_104 := hide (Below.markedZ (unhide B_94) (unhide B_94).size (unhide Y_100) (by omega) hg109)
 clear B_94
 have A_105 := hide ((unhide A_95).grown hg109 (fun hk => by have := (unhide Y_100).blk _ hk; omega))
 clear A_95
 have Av_106 := hide ((unhide Av_96).grown hg109 (fun hk => by have := (unhide Y_100).blk _ hk; omega))
 clear Av_96
 have W_107 := hide ((unhide W_97).grown hg109 (fun k hk => by have := (unhide Y_100).blk k hk; omega))
 clear W_97
 have bW_108 := hide ((unhide bW_98).grown hg109 (fun hk => by have := (unhide Y_100).blk _ hk; omega))
 clear bW_98
 have bY_109 := hide ((unhide bY_101).grown hg109 (fun hk => by have := (unhide Y_100).blk _ hk; omega))
 clear bY_101
 have G_110 := hide ((unhide G_102).grown hg109 (fun k hk => by have := (unhide Y_100).blk k hk; omega))
 clear G_102
 have bG_111 := hide ((unhide bG_103).grown hg109 (fun hk => by have := (unhide Y_100).blk _ hk; omega))
 clear bG_103
 have Y_m109 := hide h109
 clear h109 hg109 Y_100
 clear Y_m109
 clear bY_109
 have kbG := (unhide bG_111).S
 have kbW := (unhide bW_108).S
 go_wp2_with fail
 refine (eqCl id2 win2 tok2 nb2 vw2 vh2 aG aW cG cW nL L HNL (Nat.le_trans (unhide HN10) (by decide)) _ (unhide G_110).rowV (unhide W_107).rowV).mono ?_
 rintro e w110 ⟨rfl, hb110⟩
 clear kbG kbW
 have B_112 := hide ((unhide B_104).trans (hb110.mono (unhide B_104).size))
 clear B_104
 have A_113 := hide ((unhide A_105).below hb110)
 clear A_105
 have Av_114 := hide ((unhide Av_106).below hb110)
 clear Av_106
 have W_115 := hide ((unhide W_107).below hb110 (unhide W_107).le)
 clear W_107
 have bW_116 := hide ((unhide bW_108).below hb110)
 clear bW_108
 have G_117 := hide ((unhide G_110).below hb110 (unhide G_110).le)
 clear G_110
 have bG_118 := hide ((unhide bG_111).below hb110)
 clear bG_111
 clear hb110
 have kbG := (unhide bG_118).S
 go_wp2_with fail
 refine (markCl id2 win2 tok2 nb2 vw2 vh2 _ nL _ _ _ 1 q HQ _ (by decide) (by decide) (by have := unhide HN10; omega) _ (unhide G_117)).mono ?_
 rintro e w111 ⟨rfl, h111, hg111⟩
 clear kbG
 have B_119 := hide (Below.marked (unhide B_112) (unhide B_112).size (unhide G_117) (by omega) hg111)
 clear B_112
 have A_120 := hide ((unhide A_113).grown hg111 (fun hk => by have := (unhide G_117).blk _ hk; omega))
 clear A_113
 have Av_121 := hide ((unhide Av_114).grown hg111 (fun hk => by have := (unhide G_117).blk _ hk; omega))
 clear Av_114
 have W_122 := hide ((unhide W_115).grown hg111 (fun k hk => by have := (unhide G_117).blk k hk; omega))
 clear W_115
 have bW_123 := hide ((unhide bW_116).grown hg111 (fun hk => by have := (unhide G_117).blk _ hk; omega))
 clear bW_116
 have bG_124 := hide ((unhide bG_118).grown hg111 (fun hk => by have := (unhide G_117).blk _ hk; omega))
 clear bG_118
 have G_m111 := hide h111
 clear h111 hg111 G_117
 have kbG := (unhide bG_124).S
 go_wp2_with fail
 refine (heldCl id2 win2 tok2 nb2 vw2 vh2 _ nL _ _ _ 1 q HQ (by decide) (by decide) (by have := unhide HN10; omega) _ (unhide G_m111)).mono ?_
 rintro e w112 ⟨rfl, hb112⟩
 clear kbG
 have B_125 := hide ((unhide B_119).trans (hb112.mono (unhide B_119).size))
 clear B_119
 have A_126 := hide ((unhide A_120).below hb112)
 clear A_120
 have Av_127 := hide ((unhide Av_121).below hb112)
 clear Av_121
 have W_128 := hide ((unhide W_122).below hb112 (unhide W_122).le)
 clear W_122
 have bW_129 := hide ((unhide bW_123).below hb112)
 clear bW_123
 have bG_130 := hide ((unhide bG_124).below hb112)
 clear bG_124
 have G_131 := hide ((unhide G_m111).below hb112 (unhide G_m111).le)
 clear G_m111
 clear hb112
 go_wp2_with fail
 obtain ⟨PG, hPG⟩ : ∃ P, P = w102.heap.size := ⟨_, rfl⟩
 rw [← hPG] at G_131
 rw [← hPG] at bG_130
 rw [← hPG]
 obtain ⟨loG, hloG⟩ : ∃ lo, lo = w101.heap.size + 1 := ⟨_, rfl⟩
 rw [← hloG] at G_131
 obtain ⟨hiG, hhiG⟩ : ∃ h, h = PG := ⟨_, rfl⟩
 rw [← hhiG] at G_131
 clear hloG hhiG hPG
 refine Code.wp_mono (Q := fun x a' v' => match x with | .normal => (∃ (PH : Nat) (aH : Option Addr) (cH loH hiH gHC gHV : Nat), a' = ⟨(Value.string a0 :: Value.agg #[.int .i64 id, .string win, .string tok, .int .i64 nb, .int .i64 vw, .int .i64 vh, .slice a n cap] :: Value.agg #[.int .i64 nbv, .int .i64 frv, .bool fuv, .int .i64 vwv, .int .i64 vhv, .slice av nv capv] :: Value.string a3 :: undef :: Value.pointer (some ⟨w.heap.size, 0, none⟩) :: Value.pointer (some ⟨w.heap.size + 1, 0, none⟩) :: undef :: Value.bool false :: Value.int .i64 (zv : Int) :: Value.pointer (some ⟨PW, 0, none⟩) :: Value.int .i64 c :: Value.pointer (some ⟨w100.heap.size, 0, none⟩) :: Value.pointer (some ⟨w101.heap.size, 0, none⟩) :: Value.pointer (some ⟨PG, 0, none⟩) :: Value.int .i64 c :: Value.int .i64 (ky : Int) :: Value.int .i64 q :: Value.int .i64 q :: Value.pointer (some ⟨PH, 0, none⟩) :: Value.int .i64 c :: Value.string a0 :: Value.int .i64 (a0.size : Int) :: Value.bool false :: Value.string a3 :: Value.int .i64 (a3.size : Int) :: Value.bool false :: Value.agg #[.int .i64 id, .string win, .string tok, .int .i64 nb, .int .i64 vw, .int .i64 vh, .slice a n cap] :: Value.int .i64 1048576 :: Value.int .i64 (z : Int) :: Value.int .i64 (z : Int) :: Value.bool (decide ((z : Int) < 0)) :: Value.agg #[.int .i64 nbv, .int .i64 frv, .bool fuv, .int .i64 vwv, .int .i64 vhv, .slice av nv capv] :: Value.int .i64 (z : Int) :: Value.int .i64 (zv : Int) :: Value.int .i64 (zv : Int) :: Value.bool (decide ((zv : Int) < 0)) :: Value.tuple #[.agg #[.int .i64 id2, .string win2, .string tok2, .int .i64 nb2, .int .i64 vw2, .int .i64 vh2, .slice aW nL cW], .int .i64 c] :: Value.string a0 :: Value.agg #[.int .i64 id, .string win, .string tok, .int .i64 nb, .int .i64 vw, .int .i64 vh, .slice a n cap] :: Value.agg #[.int .i64 id, .string win, .string tok, .int .i64 nb, .int .i64 vw, .int .i64 vh, .slice (some ⟨gWC, 0, none⟩) n n] :: Value.agg #[.int .i64 nbv, .int .i64 frv, .bool fuv, .int .i64 vwv, .int .i64 vhv, .slice av nv capv] :: Value.agg #[.int .i64 nbv, .int .i64 frv, .bool fuv, .int .i64 vwv, .int .i64 vhv, .slice (some ⟨gWV, 0, none⟩) nv nv] :: Value.string a3 :: Value.tuple #[.agg #[.int .i64 id2, .string win2, .string tok2, .int .i64 nb2, .int .i64 vw2, .int .i64 vh2, .slice aW nL cW], .int .i64 c] :: Value.agg #[.int .i64 id2, .string win2, .string tok2, .int .i64 nb2, .int .i64 vw2, .int .i64 vh2, .slice aW nL cW] :: Value.int .i64 c :: Value.agg #[.int .i64 id, .string win, .string tok, .int .i64 nb, .int .i64 vw, .int .i64 vh, .slice a n cap] :: Value.agg #[.int .i64 id, .string win, .string tok, .int .i64 nb, .int .i64 vw, .int .i64 vh, .slice (some ⟨g100, 0, none⟩) n n] :: Value.agg #[.int .i64 nbv, .int .i64 frv, .bool fuv, .int .i64 vwv, .int .i64 vhv, .slice av nv capv] :: Value.agg #[.int .i64 nbv, .int .i64 frv, .bool fuv, .int .i64 vwv, .int .i64 vhv, .slice (some ⟨g101, 0, none⟩) nv nv] :: Value.tuple #[.agg #[.int .i64 id2, .string win2, .string tok2, .int .i64 nb2, .int .i64 vw2, .int .i64 vh2, .slice aG nL cG], .int .i64 c] :: Value.string a0 :: Value.agg #[.int .i64 id, .string win, .string tok, .int .i64 nb, .int .i64 vw, .int .i64 vh, .slice (some ⟨g100, 0, none⟩) n n] :: Value.agg #[.int .i64 nbv, .int .i64 frv, .bool fuv, .int .i64 vwv, .int .i64 vhv, .slice (some ⟨g101, 0, none⟩) nv nv] :: Value.string a3 :: Value.tuple #[.agg #[.int .i64 id2, .string win2, .string tok2, .int .i64 nb2, .int .i64 vw2, .int .i64 vh2, .slice aG nL cG], .int .i64 c] :: Value.agg #[.int .i64 id2, .string win2, .string tok2, .int .i64 nb2, .int .i64 vw2, .int .i64 vh2, .slice aG nL cG] :: Value.int .i64 c :: Value.agg #[.int .i64 id2, .string win2, .string tok2, .int .i64 nb2, .int .i64 vw2, .int .i64 vh2, .slice aG nL cG] :: Value.agg #[.int .i64 id2, .string win2, .string tok2, .int .i64 nb2, .int .i64 vw2, .int .i64 vh2, .slice aW nL cW] :: Value.bool true :: Value.bool false :: Value.bool false :: Value.int .i64 c :: Value.int .i64 c :: Value.bool false :: Value.bool false :: Value.agg #[.int .i64 id, .string win, .string tok, .int .i64 nb, .int .i64 vw, .int .i64 vh, .slice (some ⟨g100, 0, none⟩) n n] :: Value.agg #[.int .i64 id, .string win, .string tok, .int .i64 nb, .int .i64 vw, .int .i64 vh, .slice a n cap] :: Value.agg #[.int .i64 id, .string win, .string tok, .int .i64 nb, .int .i64 vw, .int .i64 vh, .slice (some ⟨g104, 0, none⟩) n n] :: Value.bool true :: Value.bool false :: Value.agg #[.int .i64 nbv, .int .i64 frv, .bool fuv, .int .i64 vwv, .int .i64 vhv, .slice (some ⟨g101, 0, none⟩) nv nv] :: Value.agg #[.int .i64 nbv, .int .i64 frv, .bool fuv, .int .i64 vwv, .int .i64 vhv, .slice av nv capv] :: Value.agg #[.int .i64 nbv, .int .i64 frv, .bool fuv, .int .i64 vwv, .int .i64 vhv, .slice (some ⟨g106, 0, none⟩) nv nv] :: Value.bool true :: Value.bool false :: Value.agg #[.int .i64 id, .string win, .string tok, .int .i64 nb, .int .i64 vw, .int .i64 vh, .slice (some ⟨g100, 0, none⟩) n n] :: Value.int .i64 1 :: Value.int .i64 (kx : Int) :: Value.agg #[.int .i64 nbv, .int .i64 frv, .bool fuv, .int .i64 vwv, .int .i64 vhv, .slice (some ⟨g101, 0, none⟩) nv nv] :: Value.int .i64 (kx : Int) :: Value.int .i64 (ky : Int) :: Value.int .i64 (ky : Int) :: Value.bool (decide ((ky : Int) < 0)) :: Value.bool (decide ((ky : Int) < 0)) :: Value.agg #[.int .i64 id2, .string win2, .string tok2, .int .i64 nb2, .int .i64 vw2, .int .i64 vh2, .slice aG nL cG] :: Value.agg #[.int .i64 id2, .string win2, .string tok2, .int .i64 nb2, .int .i64 vw2, .int .i64 vh2, .slice aW nL cW] :: Value.bool true :: Value.bool false :: Value.bool (decide ((ky : Int) < 0)) :: Value.bool (decide ((ky : Int) < 0)) :: Value.int .i64 c :: Value.int .i64 c :: Value.bool false :: Value.bool (decide ((ky : Int) < 0)) :: Value.agg #[.int .i64 id2, .string win2, .string tok2, .int .i64 nb2, .int .i64 vw2, .int .i64 vh2, .slice aG nL cG] :: Value.int .i64 1 :: Value.int .i64 q :: Value.agg #[.int .i64 id2, .string win2, .string tok2, .int .i64 nb2, .int .i64 vw2, .int .i64 vh2, .slice aG nL cG] :: Value.int .i64 1 :: Value.int .i64 q :: Value.int .i64 q :: Value.bool (decide (q < 0)) :: Value.int .i64 q :: Value.int .i64 q :: Value.bool false :: Value.tuple #[.agg #[.int .i64 id2, .string win2, .string tok2, .int .i64 nb2, .int .i64 vw2, .int .i64 vh2, .slice aH nL cH], .int .i64 c] :: Value.string a0 :: Value.agg #[.int .i64 id, .string win, .string tok, .int .i64 nb, .int .i64 vw, .int .i64 vh, .slice a n cap] :: Value.agg #[.int .i64 id, .string win, .string tok, .int .i64 nb, .int .i64 vw, .int .i64 vh, .slice (some ⟨gHC, 0, none⟩) n n] :: Value.agg #[.int .i64 nbv, .int .i64 frv, .bool fuv, .int .i64 vwv, .int .i64 vhv, .slice av nv capv] :: Value.agg #[.int .i64 nbv, .int .i64 frv, .bool fuv, .int .i64 vwv, .int .i64 vhv, .slice (some ⟨gHV, 0, none⟩) nv nv] :: Value.string a3 :: Value.tuple #[.agg #[.int .i64 id2, .string win2, .string tok2, .int .i64 nb2, .int .i64 vw2, .int .i64 vh2, .slice aH nL cH], .int .i64 c] :: Value.agg #[.int .i64 id2, .string win2, .string tok2, .int .i64 nb2, .int .i64 vw2, .int .i64 vh2, .slice aH nL cH] :: Value.int .i64 c :: undef :: undef :: undef :: undef :: undef :: undef :: undef :: undef :: undef :: undef :: undef :: undef :: undef :: undef :: undef :: undef :: undef :: []).toArray, []⟩ ∧ Below w.heap.size w v' ∧ BF w.heap.size #[.int .i64 id, .string win, .string tok, .int .i64 nb, .int .i64 vw, .int .i64 vh, .slice a n cap] v' ∧ BF (w.heap.size + 1) #[.int .i64 nbv, .int .i64 frv, .bool fuv, .int .i64 vwv, .int .i64 vhv, .slice av nv capv] v' ∧ Held v' loW hiW 9 (.slice aW nL cW) nL (cS L) ∧ BF PW #[.int .i64 id2, .string win2, .string tok2, .int .i64 nb2, .int .i64 vw2, .int .i64 vh2, .slice aW nL cW] v' ∧ BF PG #[.int .i64 id2, .string win2, .string tok2, .int .i64 nb2, .int .i64 vw2, .int .i64 vh2, .slice aG nL cG] v' ∧ Held v' loG hiG 9 (.slice aG nL cG) nL ((List.range nL).map fun j => .string (mtS (1 + j))) ∧ Held v' loH hiH 9 (.slice aH nL cH) nL (cS L) ∧ BF PH #[.int .i64 id2, .string win2, .string tok2, .int .i64 nb2, .int .i64 vw2, .int .i64 vh2, .slice aH nL cH] v') | _ => False) ?_ ?_
 rotate_left
 ·
  refine wp_region_held_drew (S := (fun w' => (∀ o, w'.cell? ⟨w.heap.size, o, none⟩ = (#[.int .i64 id, .string win, .string tok, .int .i64 nb, .int .i64 vw, .int .i64 vh, .slice a n cap] : Array Value)[o]?) ∧ (∀ o, w'.cell? ⟨(w.heap.size + 1), o, none⟩ = (#[.int .i64 nbv, .int .i64 frv, .bool fuv, .int .i64 vwv, .int .i64 vhv, .slice av nv capv] : Array Value)[o]?))) (by kernel_rfl) ⟨(unhide A_126).S, (unhide Av_127).S⟩ (fun hHeld => ?_)
  have B_132 := hide ((unhide B_125).drew)
  clear B_125
  have A_133 := hide ((unhide A_126).drew)
  clear A_126
  have Av_134 := hide ((unhide Av_127).drew)
  clear Av_127
  have W_135 := hide ((unhide W_128).below (Below.refl _ _).drew (unhide W_128).le)
  clear W_128
  have bW_136 := hide ((unhide bW_129).drew)
  clear bW_129
  have bG_137 := hide ((unhide bG_130).drew)
  clear bG_130
  have G_138 := hide ((unhide G_131).below (Below.refl _ _).drew (unhide G_131).le)
  clear G_131
  generalize w112.drew = w114 at B_132 A_133 Av_134 W_135 bW_136 bG_137 G_138 hHeld ⊢
  refine wtk (i := 0) (oi := { dst := some 109, op := .move (.tmp 0), type := 9, pos := "exact.go:6512", after := #[], guard := none }) (v := ?_) rfl (Or.inl ⟨by rfl, ?_⟩) (by assumption) ?_
  rotate_left 1
  · (intro w' hSw; (try dsimp only at hSw); go_simp; try with_reducible rfl)
  try simp only [Act.put, qqA, qqB, qqC]
  refine wtk (i := 1) (oi := { dst := some 110, op := .load 26 (.tmp 5), type := 26, pos := "exact.go:6512", after := #[], guard := none }) (v := ?_) rfl (Or.inl ⟨by rfl, ?_⟩) (by assumption) ?_
  rotate_left 1
  · (intro w' hSw; (try dsimp only at hSw); go_simp; try with_reducible rfl)
  try simp only [Act.put, qqA, qqB, qqC]
  refine wtk (i := 3) (oi := { dst := some 112, op := .load 29 (.tmp 6), type := 29, pos := "exact.go:6512", after := #[], guard := none }) (v := ?_) rfl (Or.inl ⟨by rfl, ?_⟩) (by assumption) ?_
  rotate_left 1
  · (intro w' hSw; (try dsimp only at hSw); go_simp; try with_reducible rfl)
  try simp only [Act.put, qqA, qqB, qqC]
  refine wtk (i := 5) (oi := { dst := some 114, op := .move (.tmp 3), type := 9, pos := "exact.go:6512", after := #[], guard := none }) (v := ?_) rfl (Or.inl ⟨by rfl, ?_⟩) (by assumption) ?_
  rotate_left 1
  · (intro w' hSw; (try dsimp only at hSw); go_simp; try with_reducible rfl)
  try simp only [Act.put, qqA, qqB, qqC]
  refine wpAnyH_ready (rs := [2, 10]) (by kernel_rfl) (by simp) ?_
  refine AllReadyH.cons (o := oCaw9) rfl (fun K hK => ?_) (AllReadyH.cons (o := oCaw10) rfl (fun K hK => ?_) AllReadyH.nil)
  ·
   go_simp
   refine (toCl id win tok nb vw vh a cap n l HN (unhide HL) _ ((unhide HR).below (unhide B_132))).mono ?_
   rintro e w115 ⟨g115, rfl, o115, hb115⟩
   have zc115 := hb115.size
   have B_139 := hide ((unhide B_132).trans (hb115.mono (unhide B_132).size))
   clear B_132
   have A_140 := hide ((unhide A_133).below hb115)
   clear A_133
   have Av_141 := hide ((unhide Av_134).below hb115)
   clear Av_134
   have W_142 := hide ((unhide W_135).below hb115 (unhide W_135).le)
   clear W_135
   have bW_143 := hide ((unhide bW_136).below hb115)
   clear bW_136
   have bG_144 := hide ((unhide bG_137).below hb115)
   clear bG_137
   have G_145 := hide ((unhide G_138).below hb115 (unhide G_138).le)
   clear G_138
   clear hb115
   have HT2_146 := hide (held_of o115)
   clear o115
   go_wp2_with fail
   refine hK.out _ _ ?_ (fun hHeldH2 => ?_)
   · exact ⟨(unhide A_140).S, (unhide Av_141).S⟩
   clear hK K
   try simp only [Act.put, qqA, qqB, qqC]
   refine wpAnyH_ready (rs := [4, 10]) (by kernel_rfl) (by simp) ?_
   refine AllReadyH.cons (o := oCaw11) rfl (fun K hK => ?_) (AllReadyH.cons (o := oCaw10) rfl (fun K hK => ?_) AllReadyH.nil)
   ·
    go_simp
    refine (toVw nbv frv vwv vhv fuv av capv nv lv HNv (unhide HLv) _ ((unhide HRv).below (unhide B_139))).mono ?_
    rintro e w116 ⟨g116, rfl, o116, hb116⟩
    have zc116 := hb116.size
    have B_147 := hide ((unhide B_139).trans (hb116.mono (unhide B_139).size))
    clear B_139
    have A_148 := hide ((unhide A_140).below hb116)
    clear A_140
    have Av_149 := hide ((unhide Av_141).below hb116)
    clear Av_141
    have W_150 := hide ((unhide W_142).below hb116 (unhide W_142).le)
    clear W_142
    have bW_151 := hide ((unhide bW_143).below hb116)
    clear bW_143
    have bG_152 := hide ((unhide bG_144).below hb116)
    clear bG_144
    have G_153 := hide ((unhide G_145).below hb116 (unhide G_145).le)
    clear G_145
    have HT2_154 := hide ((unhide HT2_146).below hb116 (unhide HT2_146).le)
    clear HT2_146
    clear hb116
    have HT4_155 := hide (heldZ_of o116)
    clear o116
    go_wp2_with fail
    refine hK.out _ _ ?_ (fun hHeldH4 => ?_)
    · exact ⟨(unhide A_148).S, (unhide Av_149).S⟩
    clear hK K
    try simp only [Act.put, qqA, qqB, qqC]
    refine wpAnyH_ready (rs := [6, 10]) (by kernel_rfl) (by simp) ?_
    refine AllReadyH.cons (o := oCaw12) rfl (fun K hK => ?_) (AllReadyH.cons (o := oCaw10) rfl (fun K hK => ?_) AllReadyH.nil)
    ·
     go_simp
     refine (iclacc a0 id win tok nb vw vh _ _ n l HN (unhide HL) HSZ nbv frv fuv vwv vhv _ _ nv lv HNv (unhide HLv) HSZv a3 HKS HWS id2 win2 tok2 nb2 vw2 vh2 L c HIS _ (unhide HT2_154).rowV (unhide HT4_155).rowV ((unhide HP).below (unhide B_147) (unhide HP).pos) ((unhide HK).below (unhide B_147) (unhide HK).pos)).mono ?_
     rintro e w117 ⟨vH, rfl, hoH, hb117⟩
     have zc117 := hb117.size
     have B_156 := hide ((unhide B_147).trans (hb117.mono (unhide B_147).size))
     clear B_147
     have A_157 := hide ((unhide A_148).below hb117)
     clear A_148
     have Av_158 := hide ((unhide Av_149).below hb117)
     clear Av_149
     have W_159 := hide ((unhide W_150).below hb117 (unhide W_150).le)
     clear W_150
     have bW_160 := hide ((unhide bW_151).below hb117)
     clear bW_151
     have bG_161 := hide ((unhide bG_152).below hb117)
     clear bG_152
     have G_162 := hide ((unhide G_153).below hb117 (unhide G_153).le)
     clear G_153
     have HT2_163 := hide ((unhide HT2_154).below hb117 (unhide HT2_154).le)
     clear HT2_154
     have HT4_164 := hide ((unhide HT4_155).below hb117 (unhide HT4_155).le)
     clear HT4_155
     clear hb117
     clear HT2_163
     clear HT4_164
     obtain ⟨aH, cH, rfl, -⟩ := own_rowV hoH
     rw [unhide HNL] at hoH
     rw [unhide HNL]
     obtain ⟨loH, hiH, eloH, ehiH⟩ : ∃ lo hi, lo = w116.heap.size ∧ hi = w117.heap.size := ⟨_, _, rfl, rfl⟩
     have H_165 := hide (held_of hoH)
     rw [← eloH, ← ehiH] at H_165
     clear hoH eloH ehiH
     go_wp2_with fail
     refine hK.out _ _ ?_ (fun hHeldH6 => ?_)
     · exact ⟨(unhide A_157).S, (unhide Av_158).S⟩
     clear hK K
     try simp only [Act.put, qqA, qqB, qqC]
     refine wtk (i := 7) (oi := oCaw13) (v := ?_) rfl (Or.inl ⟨by rfl, ?_⟩) (by assumption) ?_
     rotate_left 1
     · (intro w' hSw; (try dsimp only at hSw); go_simp; try with_reducible rfl)
     try simp only [Act.put, qqA, qqB, qqC]
     refine wtk (i := 8) (oi := oCaw14) (v := ?_) rfl (Or.inl ⟨by rfl, ?_⟩) (by assumption) ?_
     rotate_left 1
     · (intro w' hSw; (try dsimp only at hSw); go_simp; try with_reducible rfl)
     try simp only [Act.put, qqA, qqB, qqC]
     refine wtk (i := 9) (oi := oCaw15) (v := ?_) rfl (Or.inl ⟨by rfl, ?_⟩) (by assumption) ?_
     rotate_left 1
     · (intro w' hSw; (try dsimp only at hSw); go_simp; try with_reducible rfl)
     try simp only [Act.put, qqA, qqB, qqC]
     refine wpAnyH_ready (rs := [10]) (by kernel_rfl) (by simp) ?_
     refine AllReadyH.cons (o := oCaw10) rfl (fun K hK => ?_) AllReadyH.nil
     obtain ⟨PH, hP⟩ : ∃ P, P = w117.heap.size := ⟨_, rfl⟩
     have zPH : w.heap.size + 1 < PH := by rw [hP]; exact (unhide Av_158).lt
     have zPHW : hiW ≤ PH := by rw [hP]; exact (unhide W_159).le
     have zPHG : hiG ≤ PH := by rw [hP]; exact (unhide G_162).le
     have zPHH : hiH ≤ PH := by rw [hP]; exact (unhide H_165).le
     have zPHbW : PW < PH := by rw [hP]; exact (unhide bW_160).lt
     have zPHbG : PG < PH := by rw [hP]; exact (unhide bG_161).lt
     have B_166 := hide ((unhide B_156).alloc (unhide B_156).size (.cells #[.int .i64 0, .string ⟨#[]⟩, .string ⟨#[]⟩, .int .i64 0, .int .i64 0, .int .i64 0, .slice none 0 0] 34))
     clear B_156
     have A_167 := hide ((unhide A_157).alloc (.cells #[.int .i64 0, .string ⟨#[]⟩, .string ⟨#[]⟩, .int .i64 0, .int .i64 0, .int .i64 0, .slice none 0 0] 34))
     clear A_157
     have Av_168 := hide ((unhide Av_158).alloc (.cells #[.int .i64 0, .string ⟨#[]⟩, .string ⟨#[]⟩, .int .i64 0, .int .i64 0, .int .i64 0, .slice none 0 0] 34))
     clear Av_158
     have W_169 := hide ((unhide W_159).below (Go.Joins.below_alloc1 _ (.cells #[.int .i64 0, .string ⟨#[]⟩, .string ⟨#[]⟩, .int .i64 0, .int .i64 0, .int .i64 0, .slice none 0 0] 34)) (unhide W_159).le)
     clear W_159
     have bW_170 := hide ((unhide bW_160).alloc (.cells #[.int .i64 0, .string ⟨#[]⟩, .string ⟨#[]⟩, .int .i64 0, .int .i64 0, .int .i64 0, .slice none 0 0] 34))
     clear bW_160
     have bG_171 := hide ((unhide bG_161).alloc (.cells #[.int .i64 0, .string ⟨#[]⟩, .string ⟨#[]⟩, .int .i64 0, .int .i64 0, .int .i64 0, .slice none 0 0] 34))
     clear bG_161
     have G_172 := hide ((unhide G_162).below (Go.Joins.below_alloc1 _ (.cells #[.int .i64 0, .string ⟨#[]⟩, .string ⟨#[]⟩, .int .i64 0, .int .i64 0, .int .i64 0, .slice none 0 0] 34)) (unhide G_162).le)
     clear G_162
     have H_173 := hide ((unhide H_165).below (Go.Joins.below_alloc1 _ (.cells #[.int .i64 0, .string ⟨#[]⟩, .string ⟨#[]⟩, .int .i64 0, .int .i64 0, .int .i64 0, .slice none 0 0] 34)) (unhide H_165).le)
     clear H_165
     have bH_174 := hide (BF.new w117 #[.int .i64 0, .string ⟨#[]⟩, .string ⟨#[]⟩, .int .i64 0, .int .i64 0, .int .i64 0, .slice none 0 0] 34)
     rw [← hP] at bH_174
     go_simp
     refine hK.out _ _ ?_ (fun hHeldHA => ?_)
     · exact ⟨(unhide A_167).S, (unhide Av_168).S⟩
     clear hK K
     try simp only [Act.put, qqA, qqB, qqC]
     rw [← hP]
     clear hP
     generalize w117.alloc (.cells #[.int .i64 0, .string ⟨#[]⟩, .string ⟨#[]⟩, .int .i64 0, .int .i64 0, .int .i64 0, .slice none 0 0] 34) = w118 at B_166 A_167 Av_168 W_169 bW_170 bG_171 G_172 H_173 bH_174 hHeldHA ⊢
     refine wpAnyH_ready (rs := [11]) (by kernel_rfl) (by simp) ?_
     refine AllReadyH.cons (o := oCaw16) rfl (fun K hK => ?_) AllReadyH.nil
     have kn := (unhide bH_174).S
     have knf := (unhide bH_174).F
     obtain ⟨w119, hw119, hF119, hg119⟩ := put7G w118 (unhide bH_174) (.int .i64 id2) (.string win2) (.string tok2) (.int .i64 nb2) (.int .i64 vw2) (.int .i64 vh2) (.slice aH nL cH)
     have hne119 : ∀ q, q ≠ PH → (some PH : Option Nat) ≠ some q := fun q h e => h (Option.some.inj e).symm
     have B_175 := hide ((unhide B_166).grown hg119 (unhide B_166).size (fun k hk => by have e : PH = k := Option.some.inj hk; omega))
     clear B_166
     have A_176 := hide ((unhide A_167).grown hg119 (hne119 _ (by omega)))
     clear A_167
     have Av_177 := hide ((unhide Av_168).grown hg119 (hne119 _ (by omega)))
     clear Av_168
     have W_178 := hide ((unhide W_169).grown hg119 (fun k hk => by have e : PH = k := Option.some.inj hk; omega))
     clear W_169
     have bW_179 := hide ((unhide bW_170).grown hg119 (hne119 _ (by omega)))
     clear bW_170
     have bG_180 := hide ((unhide bG_171).grown hg119 (hne119 _ (by omega)))
     clear bG_171
     have G_181 := hide ((unhide G_172).grown hg119 (fun k hk => by have e : PH = k := Option.some.inj hk; omega))
     clear G_172
     have H_182 := hide ((unhide H_173).grown hg119 (fun k hk => by have e : PH = k := Option.some.inj hk; omega))
     clear H_173
     have bH_183 := hide (hF119)
     clear bH_174
     go_simp
     rw [← hw119]
     refine hK.out _ _ ?_ (fun hHeldHS => ?_)
     · exact ⟨(unhide A_176).S, (unhide Av_177).S⟩
     clear hK K
     try simp only [Act.put, qqA, qqB, qqC]
     clear kn knf hw119 hF119 hg119 hne119
     refine wtk (i := 12) (oi := oCaw17) (v := ?_) rfl (Or.inl ⟨by rfl, ?_⟩) (by assumption) ?_
     rotate_left 1
     · (intro w' hSw; (try dsimp only at hSw); go_simp; try with_reducible rfl)
     try simp only [Act.put, qqA, qqB, qqC]
     refine wpAnyH_done (by kernel_rfl) ?_ _
     exact ⟨PH, aH, cH, loH, hiH, _, _, rfl, (unhide B_175), (unhide A_176), (unhide Av_177), (unhide W_178), (unhide bW_179), (unhide bG_180), (unhide G_181), (unhide H_182), (unhide bH_183)⟩
    ·
     obtain ⟨PH, hP⟩ : ∃ P, P = w116.heap.size := ⟨_, rfl⟩
     have zPH : w.heap.size + 1 < PH := by rw [hP]; exact (unhide Av_149).lt
     have zPHW : hiW ≤ PH := by rw [hP]; exact (unhide W_150).le
     have zPHG : hiG ≤ PH := by rw [hP]; exact (unhide G_153).le
     have zPHbW : PW < PH := by rw [hP]; exact (unhide bW_151).lt
     have zPHbG : PG < PH := by rw [hP]; exact (unhide bG_152).lt
     have B_156 := hide ((unhide B_147).alloc (unhide B_147).size (.cells #[.int .i64 0, .string ⟨#[]⟩, .string ⟨#[]⟩, .int .i64 0, .int .i64 0, .int .i64 0, .slice none 0 0] 34))
     clear B_147
     have A_157 := hide ((unhide A_148).alloc (.cells #[.int .i64 0, .string ⟨#[]⟩, .string ⟨#[]⟩, .int .i64 0, .int .i64 0, .int .i64 0, .slice none 0 0] 34))
     clear A_148
     have Av_158 := hide ((unhide Av_149).alloc (.cells #[.int .i64 0, .string ⟨#[]⟩, .string ⟨#[]⟩, .int .i64 0, .int .i64 0, .int .i64 0, .slice none 0 0] 34))
     clear Av_149
     have W_159 := hide ((unhide W_150).below (Go.Joins.below_alloc1 _ (.cells #[.int .i64 0, .string ⟨#[]⟩, .string ⟨#[]⟩, .int .i64 0, .int .i64 0, .int .i64 0, .slice none 0 0] 34)) (unhide W_150).le)
     clear W_150
     have bW_160 := hide ((unhide bW_151).alloc (.cells #[.int .i64 0, .string ⟨#[]⟩, .string ⟨#[]⟩, .int .i64 0, .int .i64 0, .int .i64 0, .slice none 0 0] 34))
     clear bW_151
     have bG_161 := hide ((unhide bG_152).alloc (.cells #[.int .i64 0, .string ⟨#[]⟩, .string ⟨#[]⟩, .int .i64 0, .int .i64 0, .int .i64 0, .slice none 0 0] 34))
     clear bG_152
     have G_162 := hide ((unhide G_153).below (Go.Joins.below_alloc1 _ (.cells #[.int .i64 0, .string ⟨#[]⟩, .string ⟨#[]⟩, .int .i64 0, .int .i64 0, .int .i64 0, .slice none 0 0] 34)) (unhide G_153).le)
     clear G_153
     have HT2_163 := hide ((unhide HT2_154).below (Go.Joins.below_alloc1 _ (.cells #[.int .i64 0, .string ⟨#[]⟩, .string ⟨#[]⟩, .int .i64 0, .int .i64 0, .int .i64 0, .slice none 0 0] 34)) (unhide HT2_154).le)
     clear HT2_154
     have HT4_164 := hide ((unhide HT4_155).below (Go.Joins.below_alloc1 _ (.cells #[.int .i64 0, .string ⟨#[]⟩, .string ⟨#[]⟩, .int .i64 0, .int .i64 0, .int .i64 0, .slice none 0 0] 34)) (unhide HT4_155).le)
     clear HT4_155
     have bH_165 := hide (BF.new w116 #[.int .i64 0, .string ⟨#[]⟩, .string ⟨#[]⟩, .int .i64 0, .int .i64 0, .int .i64 0, .slice none 0 0] 34)
     rw [← hP] at bH_165
     go_simp
     refine hK.out _ _ ?_ (fun hHeldHA => ?_)
     · exact ⟨(unhide A_157).S, (unhide Av_158).S⟩
     clear hK K
     try simp only [Act.put, qqA, qqB, qqC]
     rw [← hP]
     clear hP
     generalize w116.alloc (.cells #[.int .i64 0, .string ⟨#[]⟩, .string ⟨#[]⟩, .int .i64 0, .int .i64 0, .int .i64 0, .slice none 0 0] 34) = w117 at B_156 A_157 Av_158 W_159 bW_160 bG_161 G_162 HT2_163 HT4_164 bH_165 hHeldHA ⊢
     refine wpAnyH_ready (rs := [6]) (by kernel_rfl) (by simp) ?_
     refine AllReadyH.cons (o := oCaw12) rfl (fun K hK => ?_) AllReadyH.nil
     have HPLH : Hid (PH < w117.heap.size) := (unhide bH_165).lt
     go_simp
     refine (iclacc a0 id win tok nb vw vh _ _ n l HN (unhide HL) HSZ nbv frv fuv vwv vhv _ _ nv lv HNv (unhide HLv) HSZv a3 HKS HWS id2 win2 tok2 nb2 vw2 vh2 L c HIS _ (unhide HT2_163).rowV (unhide HT4_164).rowV ((unhide HP).below (unhide B_156) (unhide HP).pos) ((unhide HK).below (unhide B_156) (unhide HK).pos)).mono ?_
     rintro e w118 ⟨vH, rfl, hoH, hb118⟩
     have zc118 := hb118.size
     have B_166 := hide ((unhide B_156).trans (hb118.mono (unhide B_156).size))
     clear B_156
     have A_167 := hide ((unhide A_157).below hb118)
     clear A_157
     have Av_168 := hide ((unhide Av_158).below hb118)
     clear Av_158
     have W_169 := hide ((unhide W_159).below hb118 (unhide W_159).le)
     clear W_159
     have bW_170 := hide ((unhide bW_160).below hb118)
     clear bW_160
     have bG_171 := hide ((unhide bG_161).below hb118)
     clear bG_161
     have G_172 := hide ((unhide G_162).below hb118 (unhide G_162).le)
     clear G_162
     have HT2_173 := hide ((unhide HT2_163).below hb118 (unhide HT2_163).le)
     clear HT2_163
     have HT4_174 := hide ((unhide HT4_164).below hb118 (unhide HT4_164).le)
     clear HT4_164
     have bH_175 := hide ((unhide bH_165).below hb118)
     clear bH_165
     clear hb118
     clear HT2_173
     clear HT4_174
     obtain ⟨aH, cH, rfl, -⟩ := own_rowV hoH
     rw [unhide HNL] at hoH
     rw [unhide HNL]
     obtain ⟨loH, hiH, eloH, ehiH⟩ : ∃ lo hi, lo = w117.heap.size ∧ hi = w118.heap.size := ⟨_, _, rfl, rfl⟩
     have H_176 := hide (held_of hoH)
     rw [← eloH, ← ehiH] at H_176
     have zPHr : PH < loH := by rw [eloH]; exact unhide HPLH
     clear hoH eloH ehiH
     go_wp2_with fail
     refine hK.out _ _ ?_ (fun hHeldH6 => ?_)
     · exact ⟨(unhide A_167).S, (unhide Av_168).S⟩
     clear hK K
     try simp only [Act.put, qqA, qqB, qqC]
     refine wtk (i := 7) (oi := oCaw13) (v := ?_) rfl (Or.inl ⟨by rfl, ?_⟩) (by assumption) ?_
     rotate_left 1
     · (intro w' hSw; (try dsimp only at hSw); go_simp; try with_reducible rfl)
     try simp only [Act.put, qqA, qqB, qqC]
     refine wtk (i := 8) (oi := oCaw14) (v := ?_) rfl (Or.inl ⟨by rfl, ?_⟩) (by assumption) ?_
     rotate_left 1
     · (intro w' hSw; (try dsimp only at hSw); go_simp; try with_reducible rfl)
     try simp only [Act.put, qqA, qqB, qqC]
     refine wtk (i := 9) (oi := oCaw15) (v := ?_) rfl (Or.inl ⟨by rfl, ?_⟩) (by assumption) ?_
     rotate_left 1
     · (intro w' hSw; (try dsimp only at hSw); go_simp; try with_reducible rfl)
     try simp only [Act.put, qqA, qqB, qqC]
     refine wpAnyH_ready (rs := [11]) (by kernel_rfl) (by simp) ?_
     refine AllReadyH.cons (o := oCaw16) rfl (fun K hK => ?_) AllReadyH.nil
     have kn := (unhide bH_175).S
     have knf := (unhide bH_175).F
     obtain ⟨w119, hw119, hF119, hg119⟩ := put7G w118 (unhide bH_175) (.int .i64 id2) (.string win2) (.string tok2) (.int .i64 nb2) (.int .i64 vw2) (.int .i64 vh2) (.slice aH nL cH)
     have hne119 : ∀ q, q ≠ PH → (some PH : Option Nat) ≠ some q := fun q h e => h (Option.some.inj e).symm
     have B_177 := hide ((unhide B_166).grown hg119 (unhide B_166).size (fun k hk => by have e : PH = k := Option.some.inj hk; omega))
     clear B_166
     have A_178 := hide ((unhide A_167).grown hg119 (hne119 _ (by omega)))
     clear A_167
     have Av_179 := hide ((unhide Av_168).grown hg119 (hne119 _ (by omega)))
     clear Av_168
     have W_180 := hide ((unhide W_169).grown hg119 (fun k hk => by have e : PH = k := Option.some.inj hk; omega))
     clear W_169
     have bW_181 := hide ((unhide bW_170).grown hg119 (hne119 _ (by omega)))
     clear bW_170
     have bG_182 := hide ((unhide bG_171).grown hg119 (hne119 _ (by omega)))
     clear bG_171
     have G_183 := hide ((unhide G_172).grown hg119 (fun k hk => by have e : PH = k := Option.some.inj hk; omega))
     clear G_172
     have H_184 := hide ((unhide H_176).grown hg119 (fun k hk => by have e : PH = k := Option.some.inj hk; omega))
     clear H_176
     have bH_185 := hide (hF119)
     clear bH_175
     go_simp
     rw [← hw119]
     refine hK.out _ _ ?_ (fun hHeldHS => ?_)
     · exact ⟨(unhide A_178).S, (unhide Av_179).S⟩
     clear hK K
     try simp only [Act.put, qqA, qqB, qqC]
     clear kn knf hw119 hF119 hg119 hne119
     refine wtk (i := 12) (oi := oCaw17) (v := ?_) rfl (Or.inl ⟨by rfl, ?_⟩) (by assumption) ?_
     rotate_left 1
     · (intro w' hSw; (try dsimp only at hSw); go_simp; try with_reducible rfl)
     try simp only [Act.put, qqA, qqB, qqC]
     refine wpAnyH_done (by kernel_rfl) ?_ _
     exact ⟨PH, aH, cH, loH, hiH, _, _, rfl, (unhide B_177), (unhide A_178), (unhide Av_179), (unhide W_180), (unhide bW_181), (unhide bG_182), (unhide G_183), (unhide H_184), (unhide bH_185)⟩
   ·
    obtain ⟨PH, hP⟩ : ∃ P, P = w115.heap.size := ⟨_, rfl⟩
    have zPH : w.heap.size + 1 < PH := by rw [hP]; exact (unhide Av_141).lt
    have zPHW : hiW ≤ PH := by rw [hP]; exact (unhide W_142).le
    have zPHG : hiG ≤ PH := by rw [hP]; exact (unhide G_145).le
    have zPHbW : PW < PH := by rw [hP]; exact (unhide bW_143).lt
    have zPHbG : PG < PH := by rw [hP]; exact (unhide bG_144).lt
    have B_147 := hide ((unhide B_139).alloc (unhide B_139).size (.cells #[.int .i64 0, .string ⟨#[]⟩, .string ⟨#[]⟩, .int .i64 0, .int .i64 0, .int .i64 0, .slice none 0 0] 34))
    clear B_139
    have A_148 := hide ((unhide A_140).alloc (.cells #[.int .i64 0, .string ⟨#[]⟩, .string ⟨#[]⟩, .int .i64 0, .int .i64 0, .int .i64 0, .slice none 0 0] 34))
    clear A_140
    have Av_149 := hide ((unhide Av_141).alloc (.cells #[.int .i64 0, .string ⟨#[]⟩, .string ⟨#[]⟩, .int .i64 0, .int .i64 0, .int .i64 0, .slice none 0 0] 34))
    clear Av_141
    have W_150 := hide ((unhide W_142).below (Go.Joins.below_alloc1 _ (.cells #[.int .i64 0, .string ⟨#[]⟩, .string ⟨#[]⟩, .int .i64 0, .int .i64 0, .int .i64 0, .slice none 0 0] 34)) (unhide W_142).le)
    clear W_142
    have bW_151 := hide ((unhide bW_143).alloc (.cells #[.int .i64 0, .string ⟨#[]⟩, .string ⟨#[]⟩, .int .i64 0, .int .i64 0, .int .i64 0, .slice none 0 0] 34))
    clear bW_143
    have bG_152 := hide ((unhide bG_144).alloc (.cells #[.int .i64 0, .string ⟨#[]⟩, .string ⟨#[]⟩, .int .i64 0, .int .i64 0, .int .i64 0, .slice none 0 0] 34))
    clear bG_144
    have G_153 := hide ((unhide G_145).below (Go.Joins.below_alloc1 _ (.cells #[.int .i64 0, .string ⟨#[]⟩, .string ⟨#[]⟩, .int .i64 0, .int .i64 0, .int .i64 0, .slice none 0 0] 34)) (unhide G_145).le)
    clear G_145
    have HT2_154 := hide ((unhide HT2_146).below (Go.Joins.below_alloc1 _ (.cells #[.int .i64 0, .string ⟨#[]⟩, .string ⟨#[]⟩, .int .i64 0, .int .i64 0, .int .i64 0, .slice none 0 0] 34)) (unhide HT2_146).le)
    clear HT2_146
    have bH_155 := hide (BF.new w115 #[.int .i64 0, .string ⟨#[]⟩, .string ⟨#[]⟩, .int .i64 0, .int .i64 0, .int .i64 0, .slice none 0 0] 34)
    rw [← hP] at bH_155
    go_simp
    refine hK.out _ _ ?_ (fun hHeldHA => ?_)
    · exact ⟨(unhide A_148).S, (unhide Av_149).S⟩
    clear hK K
    try simp only [Act.put, qqA, qqB, qqC]
    rw [← hP]
    clear hP
    generalize w115.alloc (.cells #[.int .i64 0, .string ⟨#[]⟩, .string ⟨#[]⟩, .int .i64 0, .int .i64 0, .int .i64 0, .slice none 0 0] 34) = w116 at B_147 A_148 Av_149 W_150 bW_151 bG_152 G_153 HT2_154 bH_155 hHeldHA ⊢
    refine wpAnyH_ready (rs := [4]) (by kernel_rfl) (by simp) ?_
    refine AllReadyH.cons (o := oCaw11) rfl (fun K hK => ?_) AllReadyH.nil
    go_simp
    refine (toVw nbv frv vwv vhv fuv av capv nv lv HNv (unhide HLv) _ ((unhide HRv).below (unhide B_147))).mono ?_
    rintro e w117 ⟨g117, rfl, o117, hb117⟩
    have zc117 := hb117.size
    have B_156 := hide ((unhide B_147).trans (hb117.mono (unhide B_147).size))
    clear B_147
    have A_157 := hide ((unhide A_148).below hb117)
    clear A_148
    have Av_158 := hide ((unhide Av_149).below hb117)
    clear Av_149
    have W_159 := hide ((unhide W_150).below hb117 (unhide W_150).le)
    clear W_150
    have bW_160 := hide ((unhide bW_151).below hb117)
    clear bW_151
    have bG_161 := hide ((unhide bG_152).below hb117)
    clear bG_152
    have G_162 := hide ((unhide G_153).below hb117 (unhide G_153).le)
    clear G_153
    have HT2_163 := hide ((unhide HT2_154).below hb117 (unhide HT2_154).le)
    clear HT2_154
    have bH_164 := hide ((unhide bH_155).below hb117)
    clear bH_155
    clear hb117
    have HT4_165 := hide (heldZ_of o117)
    clear o117
    go_wp2_with fail
    refine hK.out _ _ ?_ (fun hHeldH4 => ?_)
    · exact ⟨(unhide A_157).S, (unhide Av_158).S⟩
    clear hK K
    try simp only [Act.put, qqA, qqB, qqC]
    refine wpAnyH_ready (rs := [6]) (by kernel_rfl) (by simp) ?_
    refine AllReadyH.cons (o := oCaw12) rfl (fun K hK => ?_) AllReadyH.nil
    have HPLH : Hid (PH < w117.heap.size) := (unhide bH_164).lt
    go_simp
    refine (iclacc a0 id win tok nb vw vh _ _ n l HN (unhide HL) HSZ nbv frv fuv vwv vhv _ _ nv lv HNv (unhide HLv) HSZv a3 HKS HWS id2 win2 tok2 nb2 vw2 vh2 L c HIS _ (unhide HT2_163).rowV (unhide HT4_165).rowV ((unhide HP).below (unhide B_156) (unhide HP).pos) ((unhide HK).below (unhide B_156) (unhide HK).pos)).mono ?_
    rintro e w118 ⟨vH, rfl, hoH, hb118⟩
    have zc118 := hb118.size
    have B_166 := hide ((unhide B_156).trans (hb118.mono (unhide B_156).size))
    clear B_156
    have A_167 := hide ((unhide A_157).below hb118)
    clear A_157
    have Av_168 := hide ((unhide Av_158).below hb118)
    clear Av_158
    have W_169 := hide ((unhide W_159).below hb118 (unhide W_159).le)
    clear W_159
    have bW_170 := hide ((unhide bW_160).below hb118)
    clear bW_160
    have bG_171 := hide ((unhide bG_161).below hb118)
    clear bG_161
    have G_172 := hide ((unhide G_162).below hb118 (unhide G_162).le)
    clear G_162
    have HT2_173 := hide ((unhide HT2_163).below hb118 (unhide HT2_163).le)
    clear HT2_163
    have bH_174 := hide ((unhide bH_164).below hb118)
    clear bH_164
    have HT4_175 := hide ((unhide HT4_165).below hb118 (unhide HT4_165).le)
    clear HT4_165
    clear hb118
    clear HT2_173
    clear HT4_175
    obtain ⟨aH, cH, rfl, -⟩ := own_rowV hoH
    rw [unhide HNL] at hoH
    rw [unhide HNL]
    obtain ⟨loH, hiH, eloH, ehiH⟩ : ∃ lo hi, lo = w117.heap.size ∧ hi = w118.heap.size := ⟨_, _, rfl, rfl⟩
    have H_176 := hide (held_of hoH)
    rw [← eloH, ← ehiH] at H_176
    have zPHr : PH < loH := by rw [eloH]; exact unhide HPLH
    clear hoH eloH ehiH
    go_wp2_with fail
    refine hK.out _ _ ?_ (fun hHeldH6 => ?_)
    · exact ⟨(unhide A_167).S, (unhide Av_168).S⟩
    clear hK K
    try simp only [Act.put, qqA, qqB, qqC]
    refine wtk (i := 7) (oi := oCaw13) (v := ?_) rfl (Or.inl ⟨by rfl, ?_⟩) (by assumption) ?_
    rotate_left 1
    · (intro w' hSw; (try dsimp only at hSw); go_simp; try with_reducible rfl)
    try simp only [Act.put, qqA, qqB, qqC]
    refine wtk (i := 8) (oi := oCaw14) (v := ?_) rfl (Or.inl ⟨by rfl, ?_⟩) (by assumption) ?_
    rotate_left 1
    · (intro w' hSw; (try dsimp only at hSw); go_simp; try with_reducible rfl)
    try simp only [Act.put, qqA, qqB, qqC]
    refine wtk (i := 9) (oi := oCaw15) (v := ?_) rfl (Or.inl ⟨by rfl, ?_⟩) (by assumption) ?_
    rotate_left 1
    · (intro w' hSw; (try dsimp only at hSw); go_simp; try with_reducible rfl)
    try simp only [Act.put, qqA, qqB, qqC]
    refine wpAnyH_ready (rs := [11]) (by kernel_rfl) (by simp) ?_
    refine AllReadyH.cons (o := oCaw16) rfl (fun K hK => ?_) AllReadyH.nil
    have kn := (unhide bH_174).S
    have knf := (unhide bH_174).F
    obtain ⟨w119, hw119, hF119, hg119⟩ := put7G w118 (unhide bH_174) (.int .i64 id2) (.string win2) (.string tok2) (.int .i64 nb2) (.int .i64 vw2) (.int .i64 vh2) (.slice aH nL cH)
    have hne119 : ∀ q, q ≠ PH → (some PH : Option Nat) ≠ some q := fun q h e => h (Option.some.inj e).symm
    have B_177 := hide ((unhide B_166).grown hg119 (unhide B_166).size (fun k hk => by have e : PH = k := Option.some.inj hk; omega))
    clear B_166
    have A_178 := hide ((unhide A_167).grown hg119 (hne119 _ (by omega)))
    clear A_167
    have Av_179 := hide ((unhide Av_168).grown hg119 (hne119 _ (by omega)))
    clear Av_168
    have W_180 := hide ((unhide W_169).grown hg119 (fun k hk => by have e : PH = k := Option.some.inj hk; omega))
    clear W_169
    have bW_181 := hide ((unhide bW_170).grown hg119 (hne119 _ (by omega)))
    clear bW_170
    have bG_182 := hide ((unhide bG_171).grown hg119 (hne119 _ (by omega)))
    clear bG_171
    have G_183 := hide ((unhide G_172).grown hg119 (fun k hk => by have e : PH = k := Option.some.inj hk; omega))
    clear G_172
    have H_184 := hide ((unhide H_176).grown hg119 (fun k hk => by have e : PH = k := Option.some.inj hk; omega))
    clear H_176
    have bH_185 := hide (hF119)
    clear bH_174
    go_simp
    rw [← hw119]
    refine hK.out _ _ ?_ (fun hHeldHS => ?_)
    · exact ⟨(unhide A_178).S, (unhide Av_179).S⟩
    clear hK K
    try simp only [Act.put, qqA, qqB, qqC]
    clear kn knf hw119 hF119 hg119 hne119
    refine wtk (i := 12) (oi := oCaw17) (v := ?_) rfl (Or.inl ⟨by rfl, ?_⟩) (by assumption) ?_
    rotate_left 1
    · (intro w' hSw; (try dsimp only at hSw); go_simp; try with_reducible rfl)
    try simp only [Act.put, qqA, qqB, qqC]
    refine wpAnyH_done (by kernel_rfl) ?_ _
    exact ⟨PH, aH, cH, loH, hiH, _, _, rfl, (unhide B_177), (unhide A_178), (unhide Av_179), (unhide W_180), (unhide bW_181), (unhide bG_182), (unhide G_183), (unhide H_184), (unhide bH_185)⟩
  ·
   obtain ⟨PH, hP⟩ : ∃ P, P = w114.heap.size := ⟨_, rfl⟩
   have zPH : w.heap.size + 1 < PH := by rw [hP]; exact (unhide Av_134).lt
   have zPHW : hiW ≤ PH := by rw [hP]; exact (unhide W_135).le
   have zPHG : hiG ≤ PH := by rw [hP]; exact (unhide G_138).le
   have zPHbW : PW < PH := by rw [hP]; exact (unhide bW_136).lt
   have zPHbG : PG < PH := by rw [hP]; exact (unhide bG_137).lt
   have B_139 := hide ((unhide B_132).alloc (unhide B_132).size (.cells #[.int .i64 0, .string ⟨#[]⟩, .string ⟨#[]⟩, .int .i64 0, .int .i64 0, .int .i64 0, .slice none 0 0] 34))
   clear B_132
   have A_140 := hide ((unhide A_133).alloc (.cells #[.int .i64 0, .string ⟨#[]⟩, .string ⟨#[]⟩, .int .i64 0, .int .i64 0, .int .i64 0, .slice none 0 0] 34))
   clear A_133
   have Av_141 := hide ((unhide Av_134).alloc (.cells #[.int .i64 0, .string ⟨#[]⟩, .string ⟨#[]⟩, .int .i64 0, .int .i64 0, .int .i64 0, .slice none 0 0] 34))
   clear Av_134
   have W_142 := hide ((unhide W_135).below (Go.Joins.below_alloc1 _ (.cells #[.int .i64 0, .string ⟨#[]⟩, .string ⟨#[]⟩, .int .i64 0, .int .i64 0, .int .i64 0, .slice none 0 0] 34)) (unhide W_135).le)
   clear W_135
   have bW_143 := hide ((unhide bW_136).alloc (.cells #[.int .i64 0, .string ⟨#[]⟩, .string ⟨#[]⟩, .int .i64 0, .int .i64 0, .int .i64 0, .slice none 0 0] 34))
   clear bW_136
   have bG_144 := hide ((unhide bG_137).alloc (.cells #[.int .i64 0, .string ⟨#[]⟩, .string ⟨#[]⟩, .int .i64 0, .int .i64 0, .int .i64 0, .slice none 0 0] 34))
   clear bG_137
   have G_145 := hide ((unhide G_138).below (Go.Joins.below_alloc1 _ (.cells #[.int .i64 0, .string ⟨#[]⟩, .string ⟨#[]⟩, .int .i64 0, .int .i64 0, .int .i64 0, .slice none 0 0] 34)) (unhide G_138).le)
   clear G_138
   have bH_146 := hide (BF.new w114 #[.int .i64 0, .string ⟨#[]⟩, .string ⟨#[]⟩, .int .i64 0, .int .i64 0, .int .i64 0, .slice none 0 0] 34)
   rw [← hP] at bH_146
   go_simp
   refine hK.out _ _ ?_ (fun hHeldHA => ?_)
   · exact ⟨(unhide A_140).S, (unhide Av_141).S⟩
   clear hK K
   try simp only [Act.put, qqA, qqB, qqC]
   rw [← hP]
   clear hP
   generalize w114.alloc (.cells #[.int .i64 0, .string ⟨#[]⟩, .string ⟨#[]⟩, .int .i64 0, .int .i64 0, .int .i64 0, .slice none 0 0] 34) = w115 at B_139 A_140 Av_141 W_142 bW_143 bG_144 G_145 bH_146 hHeldHA ⊢
   refine wpAnyH_ready (rs := [2]) (by kernel_rfl) (by simp) ?_
   refine AllReadyH.cons (o := oCaw9) rfl (fun K hK => ?_) AllReadyH.nil
   go_simp
   refine (toCl id win tok nb vw vh a cap n l HN (unhide HL) _ ((unhide HR).below (unhide B_139))).mono ?_
   rintro e w116 ⟨g116, rfl, o116, hb116⟩
   have zc116 := hb116.size
   have B_147 := hide ((unhide B_139).trans (hb116.mono (unhide B_139).size))
   clear B_139
   have A_148 := hide ((unhide A_140).below hb116)
   clear A_140
   have Av_149 := hide ((unhide Av_141).below hb116)
   clear Av_141
   have W_150 := hide ((unhide W_142).below hb116 (unhide W_142).le)
   clear W_142
   have bW_151 := hide ((unhide bW_143).below hb116)
   clear bW_143
   have bG_152 := hide ((unhide bG_144).below hb116)
   clear bG_144
   have G_153 := hide ((unhide G_145).below hb116 (unhide G_145).le)
   clear G_145
   have bH_154 := hide ((unhide bH_146).below hb116)
   clear bH_146
   clear hb116
   have HT2_155 := hide (held_of o116)
   clear o116
   go_wp2_with fail
   refine hK.out _ _ ?_ (fun hHeldH2 => ?_)
   · exact ⟨(unhide A_148).S, (unhide Av_149).S⟩
   clear hK K
   try simp only [Act.put, qqA, qqB, qqC]
   refine wpAnyH_ready (rs := [4]) (by kernel_rfl) (by simp) ?_
   refine AllReadyH.cons (o := oCaw11) rfl (fun K hK => ?_) AllReadyH.nil
   go_simp
   refine (toVw nbv frv vwv vhv fuv av capv nv lv HNv (unhide HLv) _ ((unhide HRv).below (unhide B_147))).mono ?_
   rintro e w117 ⟨g117, rfl, o117, hb117⟩
   have zc117 := hb117.size
   have B_156 := hide ((unhide B_147).trans (hb117.mono (unhide B_147).size))
   clear B_147
   have A_157 := hide ((unhide A_148).below hb117)
   clear A_148
   have Av_158 := hide ((unhide Av_149).below hb117)
   clear Av_149
   have W_159 := hide ((unhide W_150).below hb117 (unhide W_150).le)
   clear W_150
   have bW_160 := hide ((unhide bW_151).below hb117)
   clear bW_151
   have bG_161 := hide ((unhide bG_152).below hb117)
   clear bG_152
   have G_162 := hide ((unhide G_153).below hb117 (unhide G_153).le)
   clear G_153
   have bH_163 := hide ((unhide bH_154).below hb117)
   clear bH_154
   have HT2_164 := hide ((unhide HT2_155).below hb117 (unhide HT2_155).le)
   clear HT2_155
   clear hb117
   have HT4_165 := hide (heldZ_of o117)
   clear o117
   go_wp2_with fail
   refine hK.out _ _ ?_ (fun hHeldH4 => ?_)
   · exact ⟨(unhide A_157).S, (unhide Av_158).S⟩
   clear hK K
   try simp only [Act.put, qqA, qqB, qqC]
   refine wpAnyH_ready (rs := [6]) (by kernel_rfl) (by simp) ?_
   refine AllReadyH.cons (o := oCaw12) rfl (fun K hK => ?_) AllReadyH.nil
   have HPLH : Hid (PH < w117.heap.size) := (unhide bH_163).lt
   go_simp
   refine (iclacc a0 id win tok nb vw vh _ _ n l HN (unhide HL) HSZ nbv frv fuv vwv vhv _ _ nv lv HNv (unhide HLv) HSZv a3 HKS HWS id2 win2 tok2 nb2 vw2 vh2 L c HIS _ (unhide HT2_164).rowV (unhide HT4_165).rowV ((unhide HP).below (unhide B_156) (unhide HP).pos) ((unhide HK).below (unhide B_156) (unhide HK).pos)).mono ?_
   rintro e w118 ⟨vH, rfl, hoH, hb118⟩
   have zc118 := hb118.size
   have B_166 := hide ((unhide B_156).trans (hb118.mono (unhide B_156).size))
   clear B_156
   have A_167 := hide ((unhide A_157).below hb118)
   clear A_157
   have Av_168 := hide ((unhide Av_158).below hb118)
   clear Av_158
   have W_169 := hide ((unhide W_159).below hb118 (unhide W_159).le)
   clear W_159
   have bW_170 := hide ((unhide bW_160).below hb118)
   clear bW_160
   have bG_171 := hide ((unhide bG_161).below hb118)
   clear bG_161
   have G_172 := hide ((unhide G_162).below hb118 (unhide G_162).le)
   clear G_162
   have bH_173 := hide ((unhide bH_163).below hb118)
   clear bH_163
   have HT2_174 := hide ((unhide HT2_164).below hb118 (unhide HT2_164).le)
   clear HT2_164
   have HT4_175 := hide ((unhide HT4_165).below hb118 (unhide HT4_165).le)
   clear HT4_165
   clear hb118
   clear HT2_174
   clear HT4_175
   obtain ⟨aH, cH, rfl, -⟩ := own_rowV hoH
   rw [unhide HNL] at hoH
   rw [unhide HNL]
   obtain ⟨loH, hiH, eloH, ehiH⟩ : ∃ lo hi, lo = w117.heap.size ∧ hi = w118.heap.size := ⟨_, _, rfl, rfl⟩
   have H_176 := hide (held_of hoH)
   rw [← eloH, ← ehiH] at H_176
   have zPHr : PH < loH := by rw [eloH]; exact unhide HPLH
   clear hoH eloH ehiH
   go_wp2_with fail
   refine hK.out _ _ ?_ (fun hHeldH6 => ?_)
   · exact ⟨(unhide A_167).S, (unhide Av_168).S⟩
   clear hK K
   try simp only [Act.put, qqA, qqB, qqC]
   refine wtk (i := 7) (oi := oCaw13) (v := ?_) rfl (Or.inl ⟨by rfl, ?_⟩) (by assumption) ?_
   rotate_left 1
   · (intro w' hSw; (try dsimp only at hSw); go_simp; try with_reducible rfl)
   try simp only [Act.put, qqA, qqB, qqC]
   refine wtk (i := 8) (oi := oCaw14) (v := ?_) rfl (Or.inl ⟨by rfl, ?_⟩) (by assumption) ?_
   rotate_left 1
   · (intro w' hSw; (try dsimp only at hSw); go_simp; try with_reducible rfl)
   try simp only [Act.put, qqA, qqB, qqC]
   refine wtk (i := 9) (oi := oCaw15) (v := ?_) rfl (Or.inl ⟨by rfl, ?_⟩) (by assumption) ?_
   rotate_left 1
   · (intro w' hSw; (try dsimp only at hSw); go_simp; try with_reducible rfl)
   try simp only [Act.put, qqA, qqB, qqC]
   refine wpAnyH_ready (rs := [11]) (by kernel_rfl) (by simp) ?_
   refine AllReadyH.cons (o := oCaw16) rfl (fun K hK => ?_) AllReadyH.nil
   have kn := (unhide bH_173).S
   have knf := (unhide bH_173).F
   obtain ⟨w119, hw119, hF119, hg119⟩ := put7G w118 (unhide bH_173) (.int .i64 id2) (.string win2) (.string tok2) (.int .i64 nb2) (.int .i64 vw2) (.int .i64 vh2) (.slice aH nL cH)
   have hne119 : ∀ q, q ≠ PH → (some PH : Option Nat) ≠ some q := fun q h e => h (Option.some.inj e).symm
   have B_177 := hide ((unhide B_166).grown hg119 (unhide B_166).size (fun k hk => by have e : PH = k := Option.some.inj hk; omega))
   clear B_166
   have A_178 := hide ((unhide A_167).grown hg119 (hne119 _ (by omega)))
   clear A_167
   have Av_179 := hide ((unhide Av_168).grown hg119 (hne119 _ (by omega)))
   clear Av_168
   have W_180 := hide ((unhide W_169).grown hg119 (fun k hk => by have e : PH = k := Option.some.inj hk; omega))
   clear W_169
   have bW_181 := hide ((unhide bW_170).grown hg119 (hne119 _ (by omega)))
   clear bW_170
   have bG_182 := hide ((unhide bG_171).grown hg119 (hne119 _ (by omega)))
   clear bG_171
   have G_183 := hide ((unhide G_172).grown hg119 (fun k hk => by have e : PH = k := Option.some.inj hk; omega))
   clear G_172
   have H_184 := hide ((unhide H_176).grown hg119 (fun k hk => by have e : PH = k := Option.some.inj hk; omega))
   clear H_176
   have bH_185 := hide (hF119)
   clear bH_173
   go_simp
   rw [← hw119]
   refine hK.out _ _ ?_ (fun hHeldHS => ?_)
   · exact ⟨(unhide A_178).S, (unhide Av_179).S⟩
   clear hK K
   try simp only [Act.put, qqA, qqB, qqC]
   clear kn knf hw119 hF119 hg119 hne119
   refine wtk (i := 12) (oi := oCaw17) (v := ?_) rfl (Or.inl ⟨by rfl, ?_⟩) (by assumption) ?_
   rotate_left 1
   · (intro w' hSw; (try dsimp only at hSw); go_simp; try with_reducible rfl)
   try simp only [Act.put, qqA, qqB, qqC]
   refine wpAnyH_done (by kernel_rfl) ?_ _
   exact ⟨PH, aH, cH, loH, hiH, _, _, rfl, (unhide B_177), (unhide A_178), (unhide Av_179), (unhide W_180), (unhide bW_181), (unhide bG_182), (unhide G_183), (unhide H_184), (unhide bH_185)⟩
 clear B_125 A_126 Av_127 W_128 bW_129 bG_130 G_131
 intro x a' vH hq
 cases x
 all_goals try exact False.elim hq
 obtain ⟨PH, aH, cH, loH, hiH, gHC, gHV, rfl, h_B, h_A, h_Av, h_W, h_bW, h_bG, h_G, h_H, h_bH⟩ := hq
 have B_rH := hide h_B
 clear h_B
 have A_rH := hide h_A
 clear h_A
 have Av_rH := hide h_Av
 clear h_Av
 have W_rH := hide h_W
 clear h_W
 have bW_rH := hide h_bW
 clear h_bW
 have bG_rH := hide h_bG
 clear h_bG
 have G_rH := hide h_G
 clear h_G
 have H_rH := hide h_H
 clear h_H
 have bH_rH := hide h_bH
 clear h_bH
 have zEH : PH < vH.heap.size := (unhide bH_rH).lt
 have zHH : hiH ≤ vH.heap.size := (unhide H_rH).le
 have zAH : w.heap.size + 1 < vH.heap.size := (unhide Av_rH).lt
 have kbH := (unhide bH_rH).S
 have kbW := (unhide bW_rH).S
 go_wp2_with fail
 go_wp2_with fail
 refine (eqCl id2 win2 tok2 nb2 vw2 vh2 aH aW cH cW nL L HNL (Nat.le_trans (unhide HN10) (by decide)) _ (unhide H_rH).rowV (unhide W_rH).rowV).mono ?_
 rintro e w200 ⟨rfl, hb200⟩
 clear kbH kbW
 have B_132 := hide ((unhide B_rH).trans (hb200.mono (unhide B_rH).size))
 clear B_rH
 have A_133 := hide ((unhide A_rH).below hb200)
 clear A_rH
 have Av_134 := hide ((unhide Av_rH).below hb200)
 clear Av_rH
 have W_135 := hide ((unhide W_rH).below hb200 (unhide W_rH).le)
 clear W_rH
 have bW_136 := hide ((unhide bW_rH).below hb200)
 clear bW_rH
 have bG_137 := hide ((unhide bG_rH).below hb200)
 clear bG_rH
 have G_138 := hide ((unhide G_rH).below hb200 (unhide G_rH).le)
 clear G_rH
 have H_139 := hide ((unhide H_rH).below hb200 (unhide H_rH).le)
 clear H_rH
 have bH_140 := hide ((unhide bH_rH).below hb200)
 clear bH_rH
 clear hb200
 have kbG := (unhide bG_137).S
 go_wp2_with fail
 refine (heldCl id2 win2 tok2 nb2 vw2 vh2 _ nL _ _ _ 1 q HQ (by decide) (by decide) (by have := unhide HN10; omega) _ (unhide G_138)).mono ?_
 rintro e w201 ⟨rfl, hb201⟩
 clear kbG
 have B_141 := hide ((unhide B_132).trans (hb201.mono (unhide B_132).size))
 clear B_132
 have A_142 := hide ((unhide A_133).below hb201)
 clear A_133
 have Av_143 := hide ((unhide Av_134).below hb201)
 clear Av_134
 have W_144 := hide ((unhide W_135).below hb201 (unhide W_135).le)
 clear W_135
 have bW_145 := hide ((unhide bW_136).below hb201)
 clear bW_136
 have bG_146 := hide ((unhide bG_137).below hb201)
 clear bG_137
 have G_147 := hide ((unhide G_138).below hb201 (unhide G_138).le)
 clear G_138
 have H_148 := hide ((unhide H_139).below hb201 (unhide H_139).le)
 clear H_139
 have bH_149 := hide ((unhide bH_140).below hb201)
 clear bH_140
 clear hb201
 go_wp2_with fail
 go_ret
 exact ⟨rfl, (unhide B_141)⟩

theorem own : ownKnob Tryz.prog.godebug = none := by kernel_rfl
theorem laidOut : laidOutB Tryz.prog = true := by kernel_rfl
set_option maxRecDepth 100000 in
theorem lifted (os : Os) (started : os.Started) (H : Type) (enc : TypeId × Value → H) :
    ReturnsInHanded {} Tryz.checked os 3 .any (fun w args => (Rows.fnExactClientAcceptSpec.pre enc Tryz.prog Tryz.f3 [] false w args ∧ laidMetH Tryz.prog Rows.fnExactClientAcceptRow.laid w) ∧ sizedMet enc Tryz.prog Tryz.f3 (OpenSpec.ofChange Rows.fnExactClientAcceptSpec) false w args)
      (Rows.fnExactClientAcceptSpec.post enc Tryz.prog Tryz.f3 false true false false) := by
  refine returnsInHanded_of_change_and (C := Tryz.checked) (X := fun w _ => laidMetH Tryz.prog Rows.fnExactClientAcceptRow.laid w) (fun _ _ _ hh h => h.of_heap hh) own started (by kernel_rfl) Tryz.func3
    (ChangeSpec.witness_shaped (enc := enc) (C := Tryz.checked) (os := os) (X := fun w _ => laidMetH Tryz.prog Rows.fnExactClientAcceptRow.laid w) false (World.laidAll Tryz.prog os Rows.fnExactClientAcceptRow.laid) #[.string ByteArray.empty, .agg #[.int .i64 0, .string ⟨#[]⟩, .string ⟨#[]⟩, .int .i64 0, .int .i64 0, .int .i64 0, .slice none 0 0], .agg #[.int .i64 0, .int .i64 0, .bool false, .int .i64 0, .int .i64 0, .slice none 0 0], .string ByteArray.empty] 8 (World.laidAll_os _ _ _) (World.shaped_of_ZipB (by kernel_rfl) (by kernel_rfl)) (by kernel_rfl) (by kernel_rfl) (by kernel_rfl) (by rw [MakeChecks.laidMetH_plain _ _ _ (by kernel_rfl)]; exact laidMet_laidAll _ (by kernel_rfl) (by kernel_rfl))) ?_
  intro W base args ds gs before hval0 hW _ _ hL _
  have hval : ∀ (j : Nat) t v, Tryz.f3.params[j]? = some t → args[j]? = some v → Value.okWide Tryz.prog W .any base t v := hval0
  have hW' := hW
  obtain ⟨p, q, hA0, hV, rfl, hfz, hnd⟩ := hW
  have hA : DataW.TrodAll enc Tryz.prog W 0 (fun _ => true) true Tryz.f3.params.toList args.toList ds p := hA0
  rw [Tryz.params3] at hA hval
  obtain ⟨v0, vs0, d0, ds0, p0, q0, hargs, rfl, rfl, h0, r0⟩ := trodAll_cons hA
  obtain ⟨v1, vs1, d1, ds1, p1, q1, rfl, rfl, rfl, h1, r1⟩ := trodAll_cons r0
  obtain ⟨v2, vs2, d2, ds2, p2, q2, rfl, rfl, rfl, h2, r2⟩ := trodAll_cons r1
  obtain ⟨v3, vs3, d3, ds3, p3, q3, rfl, rfl, rfl, h3, r3⟩ := trodAll_cons r2
  obtain ⟨rfl, rfl, rfl⟩ := trodAll_nil r3
  obtain rfl : args = #[v0, v1, v2, v3] := by cases args; simp_all
  obtain ⟨g1, rfl⟩ : ∃ d, gs = [d] := by
    obtain ⟨_, _, _, _, d, _, e, _⟩ := trodVars_one hV
    exact ⟨d, e⟩
  have k0 := h0
  have lt0 : ∀ x ∈ p0, x.block < W.heap.size := by obtain ⟨m, hm⟩ := k0; exact DataW.trod_lt m _ _ _ hm
  have k1 := h1
  have lt1 : ∀ x ∈ p1, x.block < W.heap.size := by obtain ⟨m, hm⟩ := k1; exact DataW.trod_lt m _ _ _ hm
  have k2 := h2
  have lt2 : ∀ x ∈ p2, x.block < W.heap.size := by obtain ⟨m, hm⟩ := k2; exact DataW.trod_lt m _ _ _ hm
  have k3 := h3
  have lt3 : ∀ x ∈ p3, x.block < W.heap.size := by obtain ⟨m, hm⟩ := k3; exact DataW.trod_lt m _ _ _ hm
  obtain ⟨a0, rfl, rfl, rfl, w0⟩ := open_string Tryz.underlying9 (hval 0 9 v0 rfl rfl) h0
  obtain ⟨c1_0, c1_1, c1_2, c1_3, c1_4, c1_5, c1_6, y10, y11, y12, y13, y14, y15, y16, n1_, m1_, rfl, z1_0, z1_1, z1_2, z1_3, z1_4, z1_5, z1_6⟩ := open_client Tryz.underlying26 Tryz.underlying24 ⟨by kernel_rfl, by kernel_rfl, by kernel_rfl, by kernel_rfl⟩ ⟨by kernel_rfl, by kernel_rfl, by kernel_rfl, by kernel_rfl⟩ ⟨by kernel_rfl, by kernel_rfl, by kernel_rfl, by kernel_rfl⟩ ⟨by kernel_rfl, by kernel_rfl, by kernel_rfl, by kernel_rfl⟩ (by kernel_rfl) (hval 1 26 v1 rfl rfl) h1
  obtain ⟨id, e1_0, -, -⟩ := DataW.trod_int Tryz.underlying3 z1_0
  obtain rfl : c1_0 = .int .i64 id := by simpa using e1_0
  obtain ⟨win, e1_1, -, w_win⟩ := DataW.trod_string Tryz.underlying9 z1_1
  obtain rfl : c1_1 = .string win := by simpa using e1_1
  obtain ⟨tok, e1_2, -, w_tok⟩ := DataW.trod_string Tryz.underlying9 z1_2
  obtain rfl : c1_2 = .string tok := by simpa using e1_2
  obtain ⟨nb, e1_3, -, -⟩ := DataW.trod_int Tryz.underlying3 z1_3
  obtain rfl : c1_3 = .int .i64 nb := by simpa using e1_3
  obtain ⟨vw, e1_4, -, -⟩ := DataW.trod_int Tryz.underlying3 z1_4
  obtain rfl : c1_4 = .int .i64 vw := by simpa using e1_4
  obtain ⟨vh, e1_5, -, -⟩ := DataW.trod_int Tryz.underlying3 z1_5
  obtain rfl : c1_5 = .int .i64 vh := by simpa using e1_5
  obtain ⟨a, n, cap, l, rfl, ql, ml, sl, rl⟩ := strs_fieldO Tryz.underlying22 Tryz.underlying9 (by kernel_rfl) z1_6
  obtain ⟨c2_0, c2_1, c2_2, c2_3, c2_4, c2_5, u2_0, u2_1, u2_2, u2_3, u2_4, u2_5, n2_, rfl, z2_0, z2_1, z2_2, z2_3, z2_4, z2_5⟩ := open_agg6 Tryz.underlying29 (by kernel_rfl) (by kernel_rfl) (hval 2 29 v2 rfl rfl) h2
  obtain ⟨nbv, e2_0, -, -⟩ := DataW.trod_int Tryz.underlying3 z2_0
  obtain rfl : c2_0 = .int .i64 nbv := by simpa using e2_0
  obtain ⟨frv, e2_1, -, -⟩ := DataW.trod_int Tryz.underlying3 z2_1
  obtain rfl : c2_1 = .int .i64 frv := by simpa using e2_1
  obtain ⟨fuv, e2_2, -⟩ := DataW.trod_bool Tryz.underlying4 z2_2
  obtain rfl : c2_2 = .bool fuv := by simpa using e2_2
  obtain ⟨vwv, e2_3, -, -⟩ := DataW.trod_int Tryz.underlying3 z2_3
  obtain rfl : c2_3 = .int .i64 vwv := by simpa using e2_3
  obtain ⟨vhv, e2_4, -, -⟩ := DataW.trod_int Tryz.underlying3 z2_4
  obtain rfl : c2_4 = .int .i64 vhv := by simpa using e2_4
  obtain ⟨av, nv, capv, lv, rfl, qlv, mlv, slv, rlv⟩ := entries_field Tryz.underlying27 Tryz.underlying65 (by kernel_rfl) rfl rfl (by kernel_rfl) (by kernel_rfl) Tryz.underlying3 Tryz.underlying9 z2_5
  obtain ⟨a3, rfl, rfl, rfl, w3⟩ := open_string Tryz.underlying9 (hval 3 9 v3 rfl rfl) h3
  have hT := tok_laid_FnExactClientAccept hL
  clear hA0 hval0
  refine (walk W a0 w0 id win tok nb vw vh a n cap l w_win w_tok ql ml sl rl nbv frv fuv vwv vhv av nv capv lv qlv mlv slv rlv a3 w3 hT).mono fun e W' ⟨he, bel⟩ => ?_
  subst he
  exact ⟨_, rfl, _, _, _, [], _, _, hW', trodAll_mk1 (shut_bool Tryz.underlying4 _), (trodAll_cons_mk (Below.trod laidOut (by kernel_rfl) (of_decide_eq_true (by kernel_rfl)) k0 bel lt0) (trodAll_cons_mk (Below.trod laidOut (by kernel_rfl) (of_decide_eq_true (by kernel_rfl)) k1 bel lt1) (trodAll_cons_mk (Below.trod laidOut (by kernel_rfl) (of_decide_eq_true (by kernel_rfl)) k2 bel lt2) (trodAll_cons_mk (Below.trod laidOut (by kernel_rfl) (of_decide_eq_true (by kernel_rfl)) k3 bel lt3) trodAll_mk0)))), Below.trodVars laidOut bel (by kernel_rfl) hV, bel.frame _, fun h => by cases h⟩

theorem said : Rows.FnExactClientAcceptSaid :=
  OpenClaim.holds_of_wide 3 Tryz.f3 rfl rfl rfl rfl rfl rfl rfl ⟨rfl, rfl, rfl, rfl, rfl⟩ rfl rfl rfl rfl rfl (by kernel_rfl) Tryz.func3 (by kernel_rfl)
    (of_decide_eq_true (by kernel_rfl)) (by unfold Func.isWrapper; first | (rw [if_pos (by decide +kernel)]; kernel_rfl) | (rw [if_neg (by decide +kernel)]; exact ⟨rfl, rfl⟩))
    (fun os started H enc _ => lifted os started H enc)

theorem card : Rows.FnExactClientAcceptCardSaid :=
  Claim7.holds_tied_plain_at .later [] _ _ _ _ said (fun _ h => by cases h) (by kernel_rfl) (fun _ h => by cases h) fnExactClientAccept_row_tie rfl ⟨rfl, rfl⟩ (by kernel_rfl) rfl
    (fun f fn hf hfn => by
      obtain rfl : f = 3 := Option.some.inj ((show Tryz.prog.funcNamed Tryz.f3.name = some 3 by kernel_rfl).symm.trans hf) |>.symm
      obtain rfl : fn = Tryz.f3 := (Option.some.inj (Tryz.func3.symm.trans hfn)).symm
      exact ⟨by kernel_rfl, fun j t ht => by
        rw [Tryz.params3] at ht
        have hm : t ∈ [9, 26, 29, 9] := by simpa using Array.mem_of_getElem? ht
        have hall : ([9, 26, 29, 9].all fun u => !Tryz.prog.wantsStandIn u) = true := by kernel_rfl
        exact (show Tryz.prog.wantsStandIn t = false by simpa using List.all_eq_true.1 hall t hm)⟩)
    (by kernel_rfl)
#print axioms card
end Go.Proofs.YtmmnoepcklfonaaGreatDoor
