/- At every argument that can be read, the law FnExactAcceptView returns true and leaves its arguments as they were: no condition. -/
import Derived.Test.YtfibbhggphmebaaZG44
import Derived.Test.YtfibbhggphmebaaZAgg4
import Derived.Test.YtfibbhggphmebaaZAgg6
import Derived.Test.YtfibbhggphmebaaZEntO
import Derived.Test.YtfibbhggphmebaaZStrO
import Derived.WalkKit
import Derived.ProofKit
import Derived.OpenShut
import Derived.ShutString
import Derived.ChangeOld
import Derived.Below
import Derived.Deep.Strs
import Derived.ChangeMaps5
namespace Go.Proofs.Ytfibbhggphmebaa
open Go.ChangeShapes Go.WideShapes Go.ChangeAt Go.RowKit
open Go.ChangeMaps (open_string shut_string)
set_option linter.unusedVariables false

abbrev oAvw0 : Oper := { dst := some 29, op := .call { callee := .value (.func 7), args := #[.tmp 28], argTypes := #[24] }, type := 30, pos := "exact.go:6126", after := #[{ on := 0, ground := .data }], guard := none }
abbrev oAvw1 : Oper := { dst := some 6, op := .alloc 30, type := 0, pos := "exact.go:6126", after := #[], guard := none }
abbrev oAvw2 : Oper := { dst := some 31, op := .call { callee := .value (.func 8), args := #[.tmp 30], argTypes := #[27] }, type := 36, pos := "exact.go:6126", after := #[{ on := 2, ground := .data }, { on := 1, ground := .chain }], guard := none }
abbrev oAvw3 : Oper := { dst := some 32, op := .call { callee := .value (.func 6), args := #[.tmp 29, .tmp 31], argTypes := #[30, 36] }, type := 31, pos := "exact.go:6126", after := #[{ on := 1, ground := .data }, { on := 3, ground := .data }, { on := 3, ground := .chain }], guard := none }
abbrev oAvw4 : Oper := { dst := some 27, op := .move (.tmp 32), type := 31, pos := "exact.go:6126", after := #[{ on := 4, ground := .data }], guard := none }
abbrev oAvw5 : Oper := { dst := some 33, op := .extract (.tmp 27) 0, type := 30, pos := "exact.go:6126", after := #[{ on := 5, ground := .data }], guard := none }
abbrev oAvw6 : Oper := { dst := some 34, op := .extract (.tmp 27) 1, type := 3, pos := "exact.go:6126", after := #[{ on := 5, ground := .data }, { on := 9, ground := .gcOnly Go.Departure.lateStores }], guard := none }
abbrev oAvw7 : Oper := { dst := none, op := .store 30 (.tmp 6) (.tmp 33), type := 0, pos := "exact.go:6126", after := #[{ on := 8, ground := .data }, { on := 6, ground := .data }, { on := 4, ground := .chain }, { on := 0, ground := .phase }, { on := 1, ground := .phase }, { on := 2, ground := .phase }, { on := 3, ground := .phase }, { on := 4, ground := .phase }, { on := 5, ground := .phase }, { on := 6, ground := .phase }, { on := 7, ground := .textOnly Go.Departure.lateStores }, { on := 8, ground := .phase }], guard := none }
abbrev oAvw8 : Oper := { dst := some 7, op := .assign (.tmp 34), type := 3, pos := "exact.go:6126", after := #[{ on := 7, ground := .data }, { on := 9, ground := .chain }, { on := 0, ground := .phase }, { on := 1, ground := .phase }, { on := 2, ground := .phase }, { on := 3, ground := .phase }, { on := 4, ground := .phase }, { on := 5, ground := .phase }, { on := 6, ground := .phase }, { on := 7, ground := .phase }, { on := 8, ground := .phase }, { on := 9, ground := .phase }], guard := none }
abbrev oAvw9 : Oper := { dst := some 95, op := .load 24 (.tmp 2), type := 24, pos := "exact.go:6155", after := #[], guard := none }
abbrev oAvw10 : Oper := { dst := some 97, op := .load 27 (.tmp 3), type := 27, pos := "exact.go:6155", after := #[], guard := none }
abbrev oAvw11 : Oper := { dst := some 96, op := .call { callee := .value (.func 7), args := #[.tmp 95], argTypes := #[24] }, type := 30, pos := "exact.go:6155", after := #[{ on := 0, ground := .data }], guard := none }
abbrev oAvw12 : Oper := { dst := some 15, op := .alloc 30, type := 0, pos := "exact.go:6155", after := #[], guard := none }
abbrev oAvw13 : Oper := { dst := some 98, op := .call { callee := .value (.func 8), args := #[.tmp 97], argTypes := #[27] }, type := 36, pos := "exact.go:6155", after := #[{ on := 2, ground := .data }, { on := 1, ground := .chain }], guard := none }
abbrev oAvw14 : Oper := { dst := some 99, op := .call { callee := .value (.func 9), args := #[.tmp 96, .tmp 98], argTypes := #[30, 36] }, type := 31, pos := "exact.go:6155", after := #[{ on := 1, ground := .data }, { on := 3, ground := .data }, { on := 3, ground := .chain }], guard := none }
abbrev oAvw15 : Oper := { dst := some 94, op := .move (.tmp 99), type := 31, pos := "exact.go:6155", after := #[{ on := 4, ground := .data }], guard := none }
abbrev oAvw16 : Oper := { dst := some 100, op := .extract (.tmp 94) 0, type := 30, pos := "exact.go:6155", after := #[{ on := 5, ground := .data }], guard := none }
abbrev oAvw17 : Oper := { dst := some 101, op := .extract (.tmp 94) 1, type := 3, pos := "exact.go:6155", after := #[{ on := 5, ground := .data }, { on := 9, ground := .gcOnly Go.Departure.lateStores }], guard := none }
abbrev oAvw18 : Oper := { dst := none, op := .store 30 (.tmp 15) (.tmp 100), type := 0, pos := "exact.go:6155", after := #[{ on := 8, ground := .data }, { on := 6, ground := .data }, { on := 4, ground := .chain }, { on := 0, ground := .phase }, { on := 1, ground := .phase }, { on := 2, ground := .phase }, { on := 3, ground := .phase }, { on := 4, ground := .phase }, { on := 5, ground := .phase }, { on := 6, ground := .phase }, { on := 7, ground := .textOnly Go.Departure.lateStores }, { on := 8, ground := .phase }], guard := none }
abbrev oAvw19 : Oper := { dst := some 16, op := .assign (.tmp 101), type := 3, pos := "exact.go:6155", after := #[{ on := 7, ground := .data }, { on := 9, ground := .chain }, { on := 0, ground := .phase }, { on := 1, ground := .phase }, { on := 2, ground := .phase }, { on := 3, ground := .phase }, { on := 4, ground := .phase }, { on := 5, ground := .phase }, { on := 6, ground := .phase }, { on := 7, ground := .phase }, { on := 8, ground := .phase }, { on := 9, ground := .phase }], guard := none }
theorem own : ownKnob Try.prog.godebug = none := by kernel_rfl
theorem laidOut : laidOutB Try.prog = true := by kernel_rfl
set_option maxHeartbeats 40000000 in
set_option maxRecDepth 100000 in
theorem walk (w : World) (nb vw vh : Int) (a : Option Addr) (n cap : Nat) (l : List ByteArray) (ql : l.length = n) (ml : n ≤ maxLen) (sl : ∀ k (h : k < l.length), l[k].size ≤ maxLen) (nbv frv vwv vhv : Int) (fuv : Bool) (av : Option Addr) (nv capv : Nat) (lv : List (Int × ByteArray)) (qlv : lv.length = nv) (mlv : nv ≤ maxLen) (slv : ∀ k (h : k < lv.length), lv[k].2.size ≤ maxLen) (rl : RowV w a (cS l)) (rlv : RowV w av (cE lv)) :
    Calls Try.prog 3 #[.agg #[.int .i64 nb, .int .i64 vw, .int .i64 vh, .slice a n cap], .agg #[.int .i64 nbv, .int .i64 frv, .bool fuv, .int .i64 vwv, .int .i64 vhv, .slice av nv capv]] w fun e w' => e = .returned (.bool true) ∧ Below w.heap.size w w' := by
 obtain ⟨nb2, vw2, vh2, L, c, his⟩ := av_ex nb vw vh l nbv frv fuv vwv vhv lv
 have HIS := hide his
 have hL10 := av_len his
 have nc : (c != c) = false := by simp
 obtain ⟨nL, hnL⟩ : ∃ nL, nL = L.length := ⟨_, rfl⟩
 have HNL : Hid (L.length = nL) := hnL.symm
 have hnL10 : nL ≤ 10 := by rw [hnL]; exact hL10
 have HN10 := hide hnL10
 obtain ⟨q, hq⟩ : ∃ q : Int, q = ((1 + nL : Nat) : Int) := ⟨_, rfl⟩
 have q1 : ¬ q < 0 := by omega
 have nq : (q != q) = false := by simp
 have HQ := hide hq
 obtain ⟨kx, hkx⟩ : ∃ kx : Nat, (kx : Int) = ((1 + n : Nat) : Int) := ⟨_, rfl⟩
 have HKX := hide hkx
 obtain ⟨ky, hky⟩ : ∃ ky : Nat, (ky : Int) = ((kx + nv * 2 : Nat) : Int) := ⟨_, rfl⟩
 have HKY := hide hky
 have hk0 : ¬ (ky : Int) < 0 := by omega
 clear his hq hkx hky hnL hL10 hnL10
 have HN := hide ql
 clear ql
 have HM := hide ml
 clear ml
 have HR := hide rl
 clear rl
 have HS := hide sl
 clear sl
 have HNv := hide qlv
 clear qlv
 have HMv := hide mlv
 clear mlv
 have HRv := hide rlv
 clear rlv
 have HSv := hide slv
 clear slv
 have B_1 := hide (Go.Joins.below_alloc2 w (.cells #[.int .i64 nb, .int .i64 vw, .int .i64 vh, .slice a n cap] 24) (.cells #[.int .i64 nbv, .int .i64 frv, .bool fuv, .int .i64 vwv, .int .i64 vhv, .slice av nv capv] 27))
 have A_2 := hide ((BF.new w #[.int .i64 nb, .int .i64 vw, .int .i64 vh, .slice a n cap] 24).alloc (.cells #[.int .i64 nbv, .int .i64 frv, .bool fuv, .int .i64 vwv, .int .i64 vhv, .slice av nv capv] 27))
 have Av_3 := hide (BF.new (w.alloc (.cells #[.int .i64 nb, .int .i64 vw, .int .i64 vh, .slice a n cap] 24)) #[.int .i64 nbv, .int .i64 frv, .bool fuv, .int .i64 vwv, .int .i64 vhv, .slice av nv capv] 27)
 rw [show (w.alloc (.cells #[.int .i64 nb, .int .i64 vw, .int .i64 vh, .slice a n cap] 24)).heap.size = w.heap.size + 1 from by simp] at Av_3
 go_enter Try.func3, Try.ntmps3
 have kA := (unhide A_2).S
 have kAv := (unhide Av_3).S
 go_wp2_with fail
 refine (szMr nb vw vh a cap n l HN 1048576 (Nat.le_refl _) HM HS _ ((unhide HR).below (unhide B_1))).mono ?_
 rintro e w1 ⟨x, rfl, hb1, hx⟩
 clear kA kAv
 have B_4 := hide ((unhide B_1).trans (hb1.mono (unhide B_1).size))
 clear B_1
 have A_5 := hide ((unhide A_2).below hb1)
 clear A_2
 have Av_6 := hide ((unhide Av_3).below hb1)
 clear Av_3
 clear hb1
 rcases hx with rfl | ⟨z, rfl, hz, hl, hs⟩
 ·
  go_wp2_with fail
  go_ret
  exact ⟨rfl, (unhide B_4)⟩
 have hzn : ¬ (z : Int) < 0 := by omega
 have HSZ := hide hs
 have HL := hide hl
 have HY := hide hz
 clear hs HM HS hl hz
 have kA := (unhide A_5).S
 have kAv := (unhide Av_6).S
 go_wp2_with fail
 refine (szVw nbv frv vwv vhv fuv av capv nv lv HNv z (by have := unhide HY; omega) HMv HSv _ ((unhide HRv).below (unhide B_4))).mono ?_
 rintro e w2 ⟨x, rfl, hb2, hx⟩
 clear kA kAv
 have B_7 := hide ((unhide B_4).trans (hb2.mono (unhide B_4).size))
 clear B_4
 have A_8 := hide ((unhide A_5).below hb2)
 clear A_5
 have Av_9 := hide ((unhide Av_6).below hb2)
 clear Av_6
 clear hb2
 rcases hx with rfl | ⟨zv, rfl, hzv, hlv, hsv⟩
 ·
  go_wp2_with fail
  go_ret
  exact ⟨rfl, (unhide B_7)⟩
 have hznv : ¬ (zv : Int) < 0 := by omega
 have HSZv := hide hsv
 have HLv := hide hlv
 have HYv := hide hzv
 clear hsv HMv HSv hlv hzv
 have HKB : Hid (0 < kx ∧ kx + nv * 2 ≤ 3000000 ∧ n ≤ 2000000) := by show _ ∧ _ ∧ _; have := unhide HY; have := unhide HYv; have := unhide HKX; omega
 go_wp2_with fail
 refine wp_region_held_drew (S := (fun w' => (∀ o, w'.cell? ⟨w.heap.size, o, none⟩ = (#[.int .i64 nb, .int .i64 vw, .int .i64 vh, .slice a n cap] : Array Value)[o]?) ∧ (∀ o, w'.cell? ⟨(w.heap.size + 1), o, none⟩ = (#[.int .i64 nbv, .int .i64 frv, .bool fuv, .int .i64 vwv, .int .i64 vhv, .slice av nv capv] : Array Value)[o]?))) (by kernel_rfl) ⟨(unhide A_8).S, (unhide Av_9).S⟩ (fun hHeld => ?_)
 have B_10 := hide ((unhide B_7).drew)
 clear B_7
 have A_11 := hide ((unhide A_8).drew)
 clear A_8
 have Av_12 := hide ((unhide Av_9).drew)
 clear Av_9
 generalize w2.drew = w3 at B_10 A_11 Av_12 hHeld ⊢
 refine wtk (i := 0) (oi := { dst := some 28, op := .load 24 (.tmp 2), type := 24, pos := "exact.go:6126", after := #[], guard := none }) (v := ?_) rfl (Or.inl ⟨by rfl, ?_⟩) (by assumption) ?_
 rotate_left 1
 · (intro w' hSw; (try dsimp only at hSw); go_simp; try with_reducible rfl)
 try simp only [Act.put, qqA, qqB, qqC]
 refine wtk (i := 2) (oi := { dst := some 30, op := .load 27 (.tmp 3), type := 27, pos := "exact.go:6126", after := #[], guard := none }) (v := ?_) rfl (Or.inl ⟨by rfl, ?_⟩) (by assumption) ?_
 rotate_left 1
 · (intro w' hSw; (try dsimp only at hSw); go_simp; try with_reducible rfl)
 try simp only [Act.put, qqA, qqB, qqC]
 refine wpAnyH_ready (rs := [1, 8]) (by kernel_rfl) (by simp) ?_
 refine AllReadyH.cons (o := oAvw0) rfl (fun K hK => ?_) (AllReadyH.cons (o := oAvw1) rfl (fun K hK => ?_) AllReadyH.nil)
 ·
  go_simp
  refine (toMr nb vw vh a cap n l HN (unhide HL) _ ((unhide HR).below (unhide B_10))).mono ?_
  rintro e w4 ⟨g4, rfl, o4, hb4⟩
  have zc4 := hb4.size
  have B_13 := hide ((unhide B_10).trans (hb4.mono (unhide B_10).size))
  clear B_10
  have A_14 := hide ((unhide A_11).below hb4)
  clear A_11
  have Av_15 := hide ((unhide Av_12).below hb4)
  clear Av_12
  clear hb4
  have WT1_16 := hide (held_of o4)
  clear o4
  go_wp2_with fail
  refine hK.out _ _ ?_ (fun hHeldW1 => ?_)
  · exact ⟨(unhide A_14).S, (unhide Av_15).S⟩
  clear hK K
  try simp only [Act.put, qqA, qqB, qqC]
  refine wpAnyH_ready (rs := [3, 8]) (by kernel_rfl) (by simp) ?_
  refine AllReadyH.cons (o := oAvw2) rfl (fun K hK => ?_) (AllReadyH.cons (o := oAvw1) rfl (fun K hK => ?_) AllReadyH.nil)
  ·
   go_simp
   refine (toVw nbv frv vwv vhv fuv av capv nv lv HNv (unhide HLv) _ ((unhide HRv).below (unhide B_13))).mono ?_
   rintro e w5 ⟨g5, rfl, o5, hb5⟩
   have zc5 := hb5.size
   have B_17 := hide ((unhide B_13).trans (hb5.mono (unhide B_13).size))
   clear B_13
   have A_18 := hide ((unhide A_14).below hb5)
   clear A_14
   have Av_19 := hide ((unhide Av_15).below hb5)
   clear Av_15
   have WT1_20 := hide ((unhide WT1_16).below hb5 (unhide WT1_16).le)
   clear WT1_16
   clear hb5
   have WT3_21 := hide (heldZ_of o5)
   clear o5
   go_wp2_with fail
   refine hK.out _ _ ?_ (fun hHeldW3 => ?_)
   · exact ⟨(unhide A_18).S, (unhide Av_19).S⟩
   clear hK K
   try simp only [Act.put, qqA, qqB, qqC]
   refine wpAnyH_ready (rs := [4, 8]) (by kernel_rfl) (by simp) ?_
   refine AllReadyH.cons (o := oAvw3) rfl (fun K hK => ?_) (AllReadyH.cons (o := oAvw1) rfl (fun K hK => ?_) AllReadyH.nil)
   ·
    go_simp
    refine (saccept nb vw vh _ _ n l HN (unhide HL) HSZ nbv frv fuv vwv vhv _ _ nv lv HNv (unhide HLv) HSZv nb2 vw2 vh2 L c HIS _ (unhide WT1_20).rowV (unhide WT3_21).rowV).mono ?_
    rintro e w6 ⟨vW, rfl, hoW, hb6⟩
    have zc6 := hb6.size
    have B_22 := hide ((unhide B_17).trans (hb6.mono (unhide B_17).size))
    clear B_17
    have A_23 := hide ((unhide A_18).below hb6)
    clear A_18
    have Av_24 := hide ((unhide Av_19).below hb6)
    clear Av_19
    have WT1_25 := hide ((unhide WT1_20).below hb6 (unhide WT1_20).le)
    clear WT1_20
    have WT3_26 := hide ((unhide WT3_21).below hb6 (unhide WT3_21).le)
    clear WT3_21
    clear hb6
    clear WT1_25
    clear WT3_26
    obtain ⟨aW, cW, rfl, -⟩ := own_rowV hoW
    rw [unhide HNL] at hoW
    rw [unhide HNL]
    obtain ⟨loW, hiW, eloW, ehiW⟩ : ∃ lo hi, lo = w5.heap.size ∧ hi = w6.heap.size := ⟨_, _, rfl, rfl⟩
    have W_27 := hide (held_of hoW)
    rw [← eloW, ← ehiW] at W_27
    clear hoW eloW ehiW
    go_wp2_with fail
    refine hK.out _ _ ?_ (fun hHeldW4 => ?_)
    · exact ⟨(unhide A_23).S, (unhide Av_24).S⟩
    clear hK K
    try simp only [Act.put, qqA, qqB, qqC]
    refine wtk (i := 5) (oi := oAvw4) (v := ?_) rfl (Or.inl ⟨by rfl, ?_⟩) (by assumption) ?_
    rotate_left 1
    · (intro w' hSw; (try dsimp only at hSw); go_simp; try with_reducible rfl)
    try simp only [Act.put, qqA, qqB, qqC]
    refine wtk (i := 6) (oi := oAvw5) (v := ?_) rfl (Or.inl ⟨by rfl, ?_⟩) (by assumption) ?_
    rotate_left 1
    · (intro w' hSw; (try dsimp only at hSw); go_simp; try with_reducible rfl)
    try simp only [Act.put, qqA, qqB, qqC]
    refine wtk (i := 7) (oi := oAvw6) (v := ?_) rfl (Or.inl ⟨by rfl, ?_⟩) (by assumption) ?_
    rotate_left 1
    · (intro w' hSw; (try dsimp only at hSw); go_simp; try with_reducible rfl)
    try simp only [Act.put, qqA, qqB, qqC]
    refine wpAnyH_ready (rs := [8]) (by kernel_rfl) (by simp) ?_
    refine AllReadyH.cons (o := oAvw1) rfl (fun K hK => ?_) AllReadyH.nil
    obtain ⟨PW, hP⟩ : ∃ P, P = w6.heap.size := ⟨_, rfl⟩
    have zPW : w.heap.size + 1 < PW := by rw [hP]; exact (unhide Av_24).lt
    have zPWW : hiW ≤ PW := by rw [hP]; exact (unhide W_27).le
    have B_28 := hide ((unhide B_22).alloc (unhide B_22).size (.cells #[.int .i64 0, .int .i64 0, .int .i64 0, .slice none 0 0] 30))
    clear B_22
    have A_29 := hide ((unhide A_23).alloc (.cells #[.int .i64 0, .int .i64 0, .int .i64 0, .slice none 0 0] 30))
    clear A_23
    have Av_30 := hide ((unhide Av_24).alloc (.cells #[.int .i64 0, .int .i64 0, .int .i64 0, .slice none 0 0] 30))
    clear Av_24
    have W_31 := hide ((unhide W_27).below (Go.Joins.below_alloc1 _ (.cells #[.int .i64 0, .int .i64 0, .int .i64 0, .slice none 0 0] 30)) (unhide W_27).le)
    clear W_27
    have bW_32 := hide (BF.new w6 #[.int .i64 0, .int .i64 0, .int .i64 0, .slice none 0 0] 30)
    rw [← hP] at bW_32
    go_simp
    refine hK.out _ _ ?_ (fun hHeldWA => ?_)
    · exact ⟨(unhide A_29).S, (unhide Av_30).S⟩
    clear hK K
    try simp only [Act.put, qqA, qqB, qqC]
    rw [← hP]
    clear hP
    generalize w6.alloc (.cells #[.int .i64 0, .int .i64 0, .int .i64 0, .slice none 0 0] 30) = w7 at B_28 A_29 Av_30 W_31 bW_32 hHeldWA ⊢
    refine wpAnyH_ready (rs := [9]) (by kernel_rfl) (by simp) ?_
    refine AllReadyH.cons (o := oAvw7) rfl (fun K hK => ?_) AllReadyH.nil
    have kn := (unhide bW_32).S
    have knf := (unhide bW_32).F
    obtain ⟨w8, hw8, hF8, hg8⟩ := put4G w7 (unhide bW_32) (.int .i64 nb2) (.int .i64 vw2) (.int .i64 vh2) (.slice aW nL cW)
    have hne8 : ∀ q, q ≠ PW → (some PW : Option Nat) ≠ some q := fun q h e => h (Option.some.inj e).symm
    have B_33 := hide ((unhide B_28).grown hg8 (unhide B_28).size (fun k hk => by have e : PW = k := Option.some.inj hk; omega))
    clear B_28
    have A_34 := hide ((unhide A_29).grown hg8 (hne8 _ (by omega)))
    clear A_29
    have Av_35 := hide ((unhide Av_30).grown hg8 (hne8 _ (by omega)))
    clear Av_30
    have W_36 := hide ((unhide W_31).grown hg8 (fun k hk => by have e : PW = k := Option.some.inj hk; omega))
    clear W_31
    have bW_37 := hide (hF8)
    clear bW_32
    go_simp
    rw [← hw8]
    refine hK.out _ _ ?_ (fun hHeldWS => ?_)
    · exact ⟨(unhide A_34).S, (unhide Av_35).S⟩
    clear hK K
    try simp only [Act.put, qqA, qqB, qqC]
    clear kn knf hw8 hF8 hg8 hne8
    refine wtk (i := 10) (oi := oAvw8) (v := ?_) rfl (Or.inl ⟨by rfl, ?_⟩) (by assumption) ?_
    rotate_left 1
    · (intro w' hSw; (try dsimp only at hSw); go_simp; try with_reducible rfl)
    try simp only [Act.put, qqA, qqB, qqC]
    refine wpAnyH_done (by kernel_rfl) ?_ _
    have zEW : PW < w8.heap.size := (unhide bW_37).lt
    have zHW : hiW ≤ w8.heap.size := (unhide W_36).le
    have kA := (unhide A_34).S
    have kAv := (unhide Av_35).S
    go_wp2_with fail
    refine (toMr nb vw vh a cap n l HN (unhide HL) _ ((unhide HR).below (unhide B_33))).mono ?_
    rintro e w9 ⟨g9, rfl, o9, hb9⟩
    clear kA kAv
    have z9 : w8.heap.size ≤ w9.heap.size := by have := hb9.size; (try simp at this); omega
    have B_38 := hide ((unhide B_33).trans (hb9.mono (unhide B_33).size))
    clear B_33
    have A_39 := hide ((unhide A_34).below hb9)
    clear A_34
    have Av_40 := hide ((unhide Av_35).below hb9)
    clear Av_35
    have W_41 := hide ((unhide W_36).below hb9 (unhide W_36).le)
    clear W_36
    have bW_42 := hide ((unhide bW_37).below hb9)
    clear bW_37
    clear hb9
    have X_43 := hide (held_of o9)
    clear o9
    try simp only [World.size_alloc] at X_43
    have B_44 := hide ((unhide B_38).alloc (unhide B_38).size (.cells #[.int .i64 nb, .int .i64 vw, .int .i64 vh, .slice (some ⟨g9, 0, none⟩) n n] 30))
    clear B_38
    have A_45 := hide ((unhide A_39).alloc (.cells #[.int .i64 nb, .int .i64 vw, .int .i64 vh, .slice (some ⟨g9, 0, none⟩) n n] 30))
    clear A_39
    have Av_46 := hide ((unhide Av_40).alloc (.cells #[.int .i64 nb, .int .i64 vw, .int .i64 vh, .slice (some ⟨g9, 0, none⟩) n n] 30))
    clear Av_40
    have W_47 := hide ((unhide W_41).below (Go.Joins.below_alloc1 _ (.cells #[.int .i64 nb, .int .i64 vw, .int .i64 vh, .slice (some ⟨g9, 0, none⟩) n n] 30)) (unhide W_41).le)
    clear W_41
    have bW_48 := hide ((unhide bW_42).alloc (.cells #[.int .i64 nb, .int .i64 vw, .int .i64 vh, .slice (some ⟨g9, 0, none⟩) n n] 30))
    clear bW_42
    have X_49 := hide ((unhide X_43).below (Go.Joins.below_alloc1 _ (.cells #[.int .i64 nb, .int .i64 vw, .int .i64 vh, .slice (some ⟨g9, 0, none⟩) n n] 30)) (unhide X_43).le)
    clear X_43
    have bX_50 := hide (BF.new w9 #[.int .i64 nb, .int .i64 vw, .int .i64 vh, .slice (some ⟨g9, 0, none⟩) n n] 30)
    have kA := (unhide A_45).S
    have kAv := (unhide Av_46).S
    go_wp2_with fail
    refine (toVw nbv frv vwv vhv fuv av capv nv lv HNv (unhide HLv) _ ((unhide HRv).below (unhide B_44))).mono ?_
    rintro e w10 ⟨g10, rfl, o10, hb10⟩
    clear kA kAv
    have z10 : w9.heap.size + 1 ≤ w10.heap.size := by have := hb10.size; (try simp at this); omega
    have B_51 := hide ((unhide B_44).trans (hb10.mono (unhide B_44).size))
    clear B_44
    have A_52 := hide ((unhide A_45).below hb10)
    clear A_45
    have Av_53 := hide ((unhide Av_46).below hb10)
    clear Av_46
    have W_54 := hide ((unhide W_47).below hb10 (unhide W_47).le)
    clear W_47
    have bW_55 := hide ((unhide bW_48).below hb10)
    clear bW_48
    have X_56 := hide ((unhide X_49).below hb10 (unhide X_49).le)
    clear X_49
    have bX_57 := hide ((unhide bX_50).below hb10)
    clear bX_50
    clear hb10
    have Y_58 := hide (heldZ_of o10)
    clear o10
    try simp only [World.size_alloc] at Y_58
    have B_59 := hide ((unhide B_51).alloc (unhide B_51).size (.cells #[.int .i64 nbv, .int .i64 frv, .bool fuv, .int .i64 vwv, .int .i64 vhv, .slice (some ⟨g10, 0, none⟩) nv nv] 36))
    clear B_51
    have A_60 := hide ((unhide A_52).alloc (.cells #[.int .i64 nbv, .int .i64 frv, .bool fuv, .int .i64 vwv, .int .i64 vhv, .slice (some ⟨g10, 0, none⟩) nv nv] 36))
    clear A_52
    have Av_61 := hide ((unhide Av_53).alloc (.cells #[.int .i64 nbv, .int .i64 frv, .bool fuv, .int .i64 vwv, .int .i64 vhv, .slice (some ⟨g10, 0, none⟩) nv nv] 36))
    clear Av_53
    have W_62 := hide ((unhide W_54).below (Go.Joins.below_alloc1 _ (.cells #[.int .i64 nbv, .int .i64 frv, .bool fuv, .int .i64 vwv, .int .i64 vhv, .slice (some ⟨g10, 0, none⟩) nv nv] 36)) (unhide W_54).le)
    clear W_54
    have bW_63 := hide ((unhide bW_55).alloc (.cells #[.int .i64 nbv, .int .i64 frv, .bool fuv, .int .i64 vwv, .int .i64 vhv, .slice (some ⟨g10, 0, none⟩) nv nv] 36))
    clear bW_55
    have X_64 := hide ((unhide X_56).below (Go.Joins.below_alloc1 _ (.cells #[.int .i64 nbv, .int .i64 frv, .bool fuv, .int .i64 vwv, .int .i64 vhv, .slice (some ⟨g10, 0, none⟩) nv nv] 36)) (unhide X_56).le)
    clear X_56
    have bX_65 := hide ((unhide bX_57).alloc (.cells #[.int .i64 nbv, .int .i64 frv, .bool fuv, .int .i64 vwv, .int .i64 vhv, .slice (some ⟨g10, 0, none⟩) nv nv] 36))
    clear bX_57
    have Y_66 := hide ((unhide Y_58).below (Go.Joins.below_alloc1 _ (.cells #[.int .i64 nbv, .int .i64 frv, .bool fuv, .int .i64 vwv, .int .i64 vhv, .slice (some ⟨g10, 0, none⟩) nv nv] 36)) (unhide Y_58).le)
    clear Y_58
    have bY_67 := hide (BF.new w10 #[.int .i64 nbv, .int .i64 frv, .bool fuv, .int .i64 vwv, .int .i64 vhv, .slice (some ⟨g10, 0, none⟩) nv nv] 36)
    have kbX := (unhide bX_65).S
    have kbY := (unhide bY_67).S
    go_wp2_with fail
    refine (iaccept nb vw vh _ _ n l HN (unhide HL) HSZ nbv frv fuv vwv vhv _ _ nv lv HNv (unhide HLv) HSZv nb2 vw2 vh2 L c HIS _ (unhide X_64).rowV (unhide Y_66).rowV).mono ?_
    rintro e w11 ⟨vG, rfl, hoG, hb11⟩
    clear kbX kbY
    have z11 : w10.heap.size + 1 ≤ w11.heap.size := by have := hb11.size; (try simp at this); omega
    have B_68 := hide ((unhide B_59).trans (hb11.mono (unhide B_59).size))
    clear B_59
    have A_69 := hide ((unhide A_60).below hb11)
    clear A_60
    have Av_70 := hide ((unhide Av_61).below hb11)
    clear Av_61
    have W_71 := hide ((unhide W_62).below hb11 (unhide W_62).le)
    clear W_62
    have bW_72 := hide ((unhide bW_63).below hb11)
    clear bW_63
    have X_73 := hide ((unhide X_64).below hb11 (unhide X_64).le)
    clear X_64
    have bX_74 := hide ((unhide bX_65).below hb11)
    clear bX_65
    have Y_75 := hide ((unhide Y_66).below hb11 (unhide Y_66).le)
    clear Y_66
    have bY_76 := hide ((unhide bY_67).below hb11)
    clear bY_67
    clear hb11
    obtain ⟨aG, cG, rfl, -⟩ := own_rowV hoG
    rw [unhide HNL] at hoG
    have G_77 := hide (held_of hoG)
    clear hoG
    try simp only [World.size_alloc] at G_77
    rw [unhide HNL]
    have B_78 := hide ((unhide B_68).alloc (unhide B_68).size (.cells #[.int .i64 nb2, .int .i64 vw2, .int .i64 vh2, .slice aG nL cG] 30))
    clear B_68
    have A_79 := hide ((unhide A_69).alloc (.cells #[.int .i64 nb2, .int .i64 vw2, .int .i64 vh2, .slice aG nL cG] 30))
    clear A_69
    have Av_80 := hide ((unhide Av_70).alloc (.cells #[.int .i64 nb2, .int .i64 vw2, .int .i64 vh2, .slice aG nL cG] 30))
    clear Av_70
    have W_81 := hide ((unhide W_71).below (Go.Joins.below_alloc1 _ (.cells #[.int .i64 nb2, .int .i64 vw2, .int .i64 vh2, .slice aG nL cG] 30)) (unhide W_71).le)
    clear W_71
    have bW_82 := hide ((unhide bW_72).alloc (.cells #[.int .i64 nb2, .int .i64 vw2, .int .i64 vh2, .slice aG nL cG] 30))
    clear bW_72
    have X_83 := hide ((unhide X_73).below (Go.Joins.below_alloc1 _ (.cells #[.int .i64 nb2, .int .i64 vw2, .int .i64 vh2, .slice aG nL cG] 30)) (unhide X_73).le)
    clear X_73
    have bX_84 := hide ((unhide bX_74).alloc (.cells #[.int .i64 nb2, .int .i64 vw2, .int .i64 vh2, .slice aG nL cG] 30))
    clear bX_74
    have Y_85 := hide ((unhide Y_75).below (Go.Joins.below_alloc1 _ (.cells #[.int .i64 nb2, .int .i64 vw2, .int .i64 vh2, .slice aG nL cG] 30)) (unhide Y_75).le)
    clear Y_75
    have bY_86 := hide ((unhide bY_76).alloc (.cells #[.int .i64 nb2, .int .i64 vw2, .int .i64 vh2, .slice aG nL cG] 30))
    clear bY_76
    have G_87 := hide ((unhide G_77).below (Go.Joins.below_alloc1 _ (.cells #[.int .i64 nb2, .int .i64 vw2, .int .i64 vh2, .slice aG nL cG] 30)) (unhide G_77).le)
    clear G_77
    have bG_88 := hide (BF.new w11 #[.int .i64 nb2, .int .i64 vw2, .int .i64 vh2, .slice aG nL cG] 30)
    have kbG := (unhide bG_88).S
    have kbW := (unhide bW_82).S
    go_wp2_with fail
    refine (eqMr nb2 vw2 vh2 aG aW cG cW nL L HNL (Nat.le_trans (unhide HN10) (by decide)) _ (unhide G_87).rowV (unhide W_81).rowV).mono ?_
    rintro e w12 ⟨rfl, hb12⟩
    clear kbG kbW
    have B_89 := hide ((unhide B_78).trans (hb12.mono (unhide B_78).size))
    clear B_78
    have A_90 := hide ((unhide A_79).below hb12)
    clear A_79
    have Av_91 := hide ((unhide Av_80).below hb12)
    clear Av_80
    have W_92 := hide ((unhide W_81).below hb12 (unhide W_81).le)
    clear W_81
    have bW_93 := hide ((unhide bW_82).below hb12)
    clear bW_82
    have X_94 := hide ((unhide X_83).below hb12 (unhide X_83).le)
    clear X_83
    have bX_95 := hide ((unhide bX_84).below hb12)
    clear bX_84
    have Y_96 := hide ((unhide Y_85).below hb12 (unhide Y_85).le)
    clear Y_85
    have bY_97 := hide ((unhide bY_86).below hb12)
    clear bY_86
    have G_98 := hide ((unhide G_87).below hb12 (unhide G_87).le)
    clear G_87
    have bG_99 := hide ((unhide bG_88).below hb12)
    clear bG_88
    clear hb12
    have K6 := And.intro (unhide A_90).S (unhide bX_95).S
    have HU6 := hide (unhide X_94).rowV
    have LA : w.heap.size < _ := (unhide A_90).lt
    have LX : w9.heap.size < _ := (unhide bX_95).lt
    go_wp2_with fail
    go_region_held3 (fun w' => (∀ o, w'.cell? ⟨w.heap.size, o, none⟩ = (#[.int .i64 nb, .int .i64 vw, .int .i64 vh, .slice a n cap] : Array Value)[o]?) ∧ (∀ o, w'.cell? ⟨w9.heap.size, o, none⟩ = (#[.int .i64 nb, .int .i64 vw, .int .i64 vh, .slice (some ⟨g9, 0, none⟩) n n] : Array Value)[o]?)) (first | exact K6 | exact K7 | exact K8) (first | (go_at_call 7; refine (toMr nb vw vh a cap n l HN (unhide HL) _ ((unhide HR).below (unhide B_89).drew)).mono ?_; rintro e w13 ⟨g13, rfl, o13, hb13⟩; have K7 := And.intro (fun o => (hb13.cell (p := ⟨w.heap.size, o, none⟩) LA).trans (K6.1 o)) (fun o => (hb13.cell (p := ⟨w9.heap.size, o, none⟩) LX).trans (K6.2 o)); have HO7 := hide (rowZ_at o13); have HU7 := hide ((unhide HU6).below (below_undrew hb13)); have HT7 := hide (below_undrew hb13); have LA7 := Nat.lt_of_lt_of_le LA (unhide HT7).size; have LX7 := Nat.lt_of_lt_of_le LX (unhide HT7).size; clear o13 hb13) | (go_at_call 10; refine (eqMr nb vw vh _ _ _ _ n l HN (unhide HL) _ (unhide HU7) (unhide HO7)).mono ?_; rintro e w14 ⟨rfl, hb14⟩; have K8 := And.intro (fun o => (hb14.cell (p := ⟨w.heap.size, o, none⟩) LA7).trans (K7.1 o)) (fun o => (hb14.cell (p := ⟨w9.heap.size, o, none⟩) LX7).trans (K7.2 o)); have HT8 := hide ((unhide HT7).trans (hb14.mono (unhide HT7).size)); clear hb14))
    clear K6 K7 K8 HO7 HU6 HU7 HT7 LA LX LA7 LX7
    have B_100 := hide ((unhide B_89).trans ((unhide HT8).mono (unhide B_89).size))
    clear B_89
    have A_101 := hide ((unhide A_90).below (unhide HT8))
    clear A_90
    have Av_102 := hide ((unhide Av_91).below (unhide HT8))
    clear Av_91
    have W_103 := hide ((unhide W_92).below (unhide HT8) (unhide W_92).le)
    clear W_92
    have bW_104 := hide ((unhide bW_93).below (unhide HT8))
    clear bW_93
    have X_105 := hide ((unhide X_94).below (unhide HT8) (unhide X_94).le)
    clear X_94
    have bX_106 := hide ((unhide bX_95).below (unhide HT8))
    clear bX_95
    have Y_107 := hide ((unhide Y_96).below (unhide HT8) (unhide Y_96).le)
    clear Y_96
    have bY_108 := hide ((unhide bY_97).below (unhide HT8))
    clear bY_97
    have G_109 := hide ((unhide G_98).below (unhide HT8) (unhide G_98).le)
    clear G_98
    have bG_110 := hide ((unhide bG_99).below (unhide HT8))
    clear bG_99
    clear HT8
    have K6 := And.intro (unhide Av_102).S (unhide bY_108).S
    have HU6 := hide (unhide Y_107).rowV
    have LA : (w.heap.size + 1) < _ := (unhide Av_102).lt
    have LX : w10.heap.size < _ := (unhide bY_108).lt
    go_wp2_with fail
    go_region_held3 (fun w' => (∀ o, w'.cell? ⟨(w.heap.size + 1), o, none⟩ = (#[.int .i64 nbv, .int .i64 frv, .bool fuv, .int .i64 vwv, .int .i64 vhv, .slice av nv capv] : Array Value)[o]?) ∧ (∀ o, w'.cell? ⟨w10.heap.size, o, none⟩ = (#[.int .i64 nbv, .int .i64 frv, .bool fuv, .int .i64 vwv, .int .i64 vhv, .slice (some ⟨g10, 0, none⟩) nv nv] : Array Value)[o]?)) (first | exact K6 | exact K7 | exact K8) (first | (go_at_call 8; refine (toVw nbv frv vwv vhv fuv av capv nv lv HNv (unhide HLv) _ ((unhide HRv).below (unhide B_100).drew)).mono ?_; rintro e w15 ⟨g15, rfl, o15, hb15⟩; have K7 := And.intro (fun o => (hb15.cell (p := ⟨(w.heap.size + 1), o, none⟩) LA).trans (K6.1 o)) (fun o => (hb15.cell (p := ⟨w10.heap.size, o, none⟩) LX).trans (K6.2 o)); have HO7 := hide (rowZ_at o15); have HU7 := hide ((unhide HU6).below (below_undrew hb15)); have HT7 := hide (below_undrew hb15); have LA7 := Nat.lt_of_lt_of_le LA (unhide HT7).size; have LX7 := Nat.lt_of_lt_of_le LX (unhide HT7).size; clear o15 hb15) | (go_at_call 11; refine (eqVw nbv frv vwv vhv fuv _ _ _ _ nv lv HNv (unhide HLv) _ (unhide HU7) (unhide HO7)).mono ?_; rintro e w16 ⟨rfl, hb16⟩; have K8 := And.intro (fun o => (hb16.cell (p := ⟨(w.heap.size + 1), o, none⟩) LA7).trans (K7.1 o)) (fun o => (hb16.cell (p := ⟨w10.heap.size, o, none⟩) LX7).trans (K7.2 o)); have HT8 := hide ((unhide HT7).trans (hb16.mono (unhide HT7).size)); clear hb16))
    clear K6 K7 K8 HO7 HU6 HU7 HT7 LA LX LA7 LX7
    have B_111 := hide ((unhide B_100).trans ((unhide HT8).mono (unhide B_100).size))
    clear B_100
    have A_112 := hide ((unhide A_101).below (unhide HT8))
    clear A_101
    have Av_113 := hide ((unhide Av_102).below (unhide HT8))
    clear Av_102
    have W_114 := hide ((unhide W_103).below (unhide HT8) (unhide W_103).le)
    clear W_103
    have bW_115 := hide ((unhide bW_104).below (unhide HT8))
    clear bW_104
    have X_116 := hide ((unhide X_105).below (unhide HT8) (unhide X_105).le)
    clear X_105
    have bX_117 := hide ((unhide bX_106).below (unhide HT8))
    clear bX_106
    have Y_118 := hide ((unhide Y_107).below (unhide HT8) (unhide Y_107).le)
    clear Y_107
    have bY_119 := hide ((unhide bY_108).below (unhide HT8))
    clear bY_108
    have G_120 := hide ((unhide G_109).below (unhide HT8) (unhide G_109).le)
    clear G_109
    have bG_121 := hide ((unhide bG_110).below (unhide HT8))
    clear bG_110
    clear HT8
    have kbX := (unhide bX_117).S
    go_wp2_with fail
    refine (markMr nb vw vh _ n _ _ _ 1 (kx : Int) HKX _ (by decide) (by decide) (unhide HKB).2.2 _ (unhide X_116)).mono ?_
    rintro e w17 ⟨rfl, h17, hg17⟩
    clear kbX
    have B_122 := hide (Below.marked (unhide B_111) (unhide B_111).size (unhide X_116) (by omega) hg17)
    clear B_111
    have A_123 := hide ((unhide A_112).grown hg17 (fun hk => by have := (unhide X_116).blk _ hk; omega))
    clear A_112
    have Av_124 := hide ((unhide Av_113).grown hg17 (fun hk => by have := (unhide X_116).blk _ hk; omega))
    clear Av_113
    have W_125 := hide ((unhide W_114).grown hg17 (fun k hk => by have := (unhide X_116).blk k hk; omega))
    clear W_114
    have bW_126 := hide ((unhide bW_115).grown hg17 (fun hk => by have := (unhide X_116).blk _ hk; omega))
    clear bW_115
    have bX_127 := hide ((unhide bX_117).grown hg17 (fun hk => by have := (unhide X_116).blk _ hk; omega))
    clear bX_117
    have Y_128 := hide ((unhide Y_118).grown hg17 (fun k hk => by have := (unhide X_116).blk k hk; omega))
    clear Y_118
    have bY_129 := hide ((unhide bY_119).grown hg17 (fun hk => by have := (unhide X_116).blk _ hk; omega))
    clear bY_119
    have G_130 := hide ((unhide G_120).grown hg17 (fun k hk => by have := (unhide X_116).blk k hk; omega))
    clear G_120
    have bG_131 := hide ((unhide bG_121).grown hg17 (fun hk => by have := (unhide X_116).blk _ hk; omega))
    clear bG_121
    have X_m17 := hide h17
    clear h17 hg17 X_116
    clear X_m17
    clear bX_127
    have kbY := (unhide bY_129).S
    go_wp2_with fail
    refine (markVw nbv frv vwv vhv fuv _ nv _ _ _ kx (ky : Int) HKY _ (unhide HKB).1 (unhide HKB).2.1 _ (unhide Y_128)).mono ?_
    rintro e w18 ⟨rfl, h18, hg18⟩
    clear kbY
    have B_132 := hide (Below.markedZ (unhide B_122) (unhide B_122).size (unhide Y_128) (by omega) hg18)
    clear B_122
    have A_133 := hide ((unhide A_123).grown hg18 (fun hk => by have := (unhide Y_128).blk _ hk; omega))
    clear A_123
    have Av_134 := hide ((unhide Av_124).grown hg18 (fun hk => by have := (unhide Y_128).blk _ hk; omega))
    clear Av_124
    have W_135 := hide ((unhide W_125).grown hg18 (fun k hk => by have := (unhide Y_128).blk k hk; omega))
    clear W_125
    have bW_136 := hide ((unhide bW_126).grown hg18 (fun hk => by have := (unhide Y_128).blk _ hk; omega))
    clear bW_126
    have bY_137 := hide ((unhide bY_129).grown hg18 (fun hk => by have := (unhide Y_128).blk _ hk; omega))
    clear bY_129
    have G_138 := hide ((unhide G_130).grown hg18 (fun k hk => by have := (unhide Y_128).blk k hk; omega))
    clear G_130
    have bG_139 := hide ((unhide bG_131).grown hg18 (fun hk => by have := (unhide Y_128).blk _ hk; omega))
    clear bG_131
    have Y_m18 := hide h18
    clear h18 hg18 Y_128
    clear Y_m18
    clear bY_137
    have kbG := (unhide bG_139).S
    have kbW := (unhide bW_136).S
    go_wp2_with fail
    refine (eqMr nb2 vw2 vh2 aG aW cG cW nL L HNL (Nat.le_trans (unhide HN10) (by decide)) _ (unhide G_138).rowV (unhide W_135).rowV).mono ?_
    rintro e w19 ⟨rfl, hb19⟩
    clear kbG kbW
    have B_140 := hide ((unhide B_132).trans (hb19.mono (unhide B_132).size))
    clear B_132
    have A_141 := hide ((unhide A_133).below hb19)
    clear A_133
    have Av_142 := hide ((unhide Av_134).below hb19)
    clear Av_134
    have W_143 := hide ((unhide W_135).below hb19 (unhide W_135).le)
    clear W_135
    have bW_144 := hide ((unhide bW_136).below hb19)
    clear bW_136
    have G_145 := hide ((unhide G_138).below hb19 (unhide G_138).le)
    clear G_138
    have bG_146 := hide ((unhide bG_139).below hb19)
    clear bG_139
    clear hb19
    have kbG := (unhide bG_146).S
    go_wp2_with fail
    refine (markMr nb2 vw2 vh2 _ nL _ _ _ 1 q HQ _ (by decide) (by decide) (by have := unhide HN10; omega) _ (unhide G_145)).mono ?_
    rintro e w20 ⟨rfl, h20, hg20⟩
    clear kbG
    have B_147 := hide (Below.marked (unhide B_140) (unhide B_140).size (unhide G_145) (by omega) hg20)
    clear B_140
    have A_148 := hide ((unhide A_141).grown hg20 (fun hk => by have := (unhide G_145).blk _ hk; omega))
    clear A_141
    have Av_149 := hide ((unhide Av_142).grown hg20 (fun hk => by have := (unhide G_145).blk _ hk; omega))
    clear Av_142
    have W_150 := hide ((unhide W_143).grown hg20 (fun k hk => by have := (unhide G_145).blk k hk; omega))
    clear W_143
    have bW_151 := hide ((unhide bW_144).grown hg20 (fun hk => by have := (unhide G_145).blk _ hk; omega))
    clear bW_144
    have bG_152 := hide ((unhide bG_146).grown hg20 (fun hk => by have := (unhide G_145).blk _ hk; omega))
    clear bG_146
    have G_m20 := hide h20
    clear h20 hg20 G_145
    have kbG := (unhide bG_152).S
    go_wp2_with fail
    refine (heldMr nb2 vw2 vh2 _ nL _ _ _ 1 q HQ (by decide) (by decide) (by have := unhide HN10; omega) _ (unhide G_m20)).mono ?_
    rintro e w21 ⟨rfl, hb21⟩
    clear kbG
    have B_153 := hide ((unhide B_147).trans (hb21.mono (unhide B_147).size))
    clear B_147
    have A_154 := hide ((unhide A_148).below hb21)
    clear A_148
    have Av_155 := hide ((unhide Av_149).below hb21)
    clear Av_149
    have W_156 := hide ((unhide W_150).below hb21 (unhide W_150).le)
    clear W_150
    have bW_157 := hide ((unhide bW_151).below hb21)
    clear bW_151
    have bG_158 := hide ((unhide bG_152).below hb21)
    clear bG_152
    have G_159 := hide ((unhide G_m20).below hb21 (unhide G_m20).le)
    clear G_m20
    clear hb21
    go_wp2_with fail
    have zG22 : w11.heap.size < w21.heap.size := (unhide bG_158).lt
    have zW22 : PW < w21.heap.size := (unhide bW_157).lt
    refine wp_region_held_drew (S := (fun w' => (∀ o, w'.cell? ⟨w.heap.size, o, none⟩ = (#[.int .i64 nb, .int .i64 vw, .int .i64 vh, .slice a n cap] : Array Value)[o]?) ∧ (∀ o, w'.cell? ⟨(w.heap.size + 1), o, none⟩ = (#[.int .i64 nbv, .int .i64 frv, .bool fuv, .int .i64 vwv, .int .i64 vhv, .slice av nv capv] : Array Value)[o]?))) (by kernel_rfl) ⟨(unhide A_154).S, (unhide Av_155).S⟩ (fun hHeld => ?_)
    have B_160 := hide ((unhide B_153).drew)
    clear B_153
    have A_161 := hide ((unhide A_154).drew)
    clear A_154
    have Av_162 := hide ((unhide Av_155).drew)
    clear Av_155
    have W_163 := hide ((unhide W_156).below (Below.refl _ _).drew (unhide W_156).le)
    clear W_156
    have bW_164 := hide ((unhide bW_157).drew)
    clear bW_157
    have bG_165 := hide ((unhide bG_158).drew)
    clear bG_158
    have G_166 := hide ((unhide G_159).below (Below.refl _ _).drew (unhide G_159).le)
    clear G_159
    generalize w21.drew = w23 at B_160 A_161 Av_162 W_163 bW_164 bG_165 G_166 hHeld ⊢
    refine wtk (i := 0) (oi := oAvw9) (v := ?_) rfl (Or.inl ⟨by rfl, ?_⟩) (by assumption) ?_
    rotate_left 1
    · (intro w' hSw; (try dsimp only at hSw); go_simp; try with_reducible rfl)
    try simp only [Act.put, qqA, qqB, qqC]
    refine wtk (i := 2) (oi := oAvw10) (v := ?_) rfl (Or.inl ⟨by rfl, ?_⟩) (by assumption) ?_
    rotate_left 1
    · (intro w' hSw; (try dsimp only at hSw); go_simp; try with_reducible rfl)
    try simp only [Act.put, qqA, qqB, qqC]
    refine wpAnyH_ready (rs := [1, 8]) (by kernel_rfl) (by simp) ?_
    refine AllReadyH.cons (o := oAvw11) rfl (fun K hK => ?_) (AllReadyH.cons (o := oAvw12) rfl (fun K hK => ?_) AllReadyH.nil)
    ·
     go_simp
     refine (toMr nb vw vh a cap n l HN (unhide HL) _ ((unhide HR).below (unhide B_160))).mono ?_
     rintro e w24 ⟨g24, rfl, o24, hb24⟩
     have zc24 := hb24.size
     have B_167 := hide ((unhide B_160).trans (hb24.mono (unhide B_160).size))
     clear B_160
     have A_168 := hide ((unhide A_161).below hb24)
     clear A_161
     have Av_169 := hide ((unhide Av_162).below hb24)
     clear Av_162
     have W_170 := hide ((unhide W_163).below hb24 (unhide W_163).le)
     clear W_163
     have bW_171 := hide ((unhide bW_164).below hb24)
     clear bW_164
     have bG_172 := hide ((unhide bG_165).below hb24)
     clear bG_165
     have G_173 := hide ((unhide G_166).below hb24 (unhide G_166).le)
     clear G_166
     clear hb24
     have HT1_174 := hide (held_of o24)
     clear o24
     go_wp2_with fail
     refine hK.out _ _ ?_ (fun hHeldH1 => ?_)
     · exact ⟨(unhide A_168).S, (unhide Av_169).S⟩
     clear hK K
     try simp only [Act.put, qqA, qqB, qqC]
     refine wpAnyH_ready (rs := [3, 8]) (by kernel_rfl) (by simp) ?_
     refine AllReadyH.cons (o := oAvw13) rfl (fun K hK => ?_) (AllReadyH.cons (o := oAvw12) rfl (fun K hK => ?_) AllReadyH.nil)
     ·
      go_simp
      refine (toVw nbv frv vwv vhv fuv av capv nv lv HNv (unhide HLv) _ ((unhide HRv).below (unhide B_167))).mono ?_
      rintro e w25 ⟨g25, rfl, o25, hb25⟩
      have zc25 := hb25.size
      have B_175 := hide ((unhide B_167).trans (hb25.mono (unhide B_167).size))
      clear B_167
      have A_176 := hide ((unhide A_168).below hb25)
      clear A_168
      have Av_177 := hide ((unhide Av_169).below hb25)
      clear Av_169
      have W_178 := hide ((unhide W_170).below hb25 (unhide W_170).le)
      clear W_170
      have bW_179 := hide ((unhide bW_171).below hb25)
      clear bW_171
      have bG_180 := hide ((unhide bG_172).below hb25)
      clear bG_172
      have G_181 := hide ((unhide G_173).below hb25 (unhide G_173).le)
      clear G_173
      have HT1_182 := hide ((unhide HT1_174).below hb25 (unhide HT1_174).le)
      clear HT1_174
      clear hb25
      have HT3_183 := hide (heldZ_of o25)
      clear o25
      go_wp2_with fail
      refine hK.out _ _ ?_ (fun hHeldH3 => ?_)
      · exact ⟨(unhide A_176).S, (unhide Av_177).S⟩
      clear hK K
      try simp only [Act.put, qqA, qqB, qqC]
      refine wpAnyH_ready (rs := [4, 8]) (by kernel_rfl) (by simp) ?_
      refine AllReadyH.cons (o := oAvw14) rfl (fun K hK => ?_) (AllReadyH.cons (o := oAvw12) rfl (fun K hK => ?_) AllReadyH.nil)
      ·
       go_simp
       refine (iaccept nb vw vh _ _ n l HN (unhide HL) HSZ nbv frv fuv vwv vhv _ _ nv lv HNv (unhide HLv) HSZv nb2 vw2 vh2 L c HIS _ (unhide HT1_182).rowV (unhide HT3_183).rowV).mono ?_
       rintro e w26 ⟨vH, rfl, hoH, hb26⟩
       have zc26 := hb26.size
       have B_184 := hide ((unhide B_175).trans (hb26.mono (unhide B_175).size))
       clear B_175
       have A_185 := hide ((unhide A_176).below hb26)
       clear A_176
       have Av_186 := hide ((unhide Av_177).below hb26)
       clear Av_177
       have W_187 := hide ((unhide W_178).below hb26 (unhide W_178).le)
       clear W_178
       have bW_188 := hide ((unhide bW_179).below hb26)
       clear bW_179
       have bG_189 := hide ((unhide bG_180).below hb26)
       clear bG_180
       have G_190 := hide ((unhide G_181).below hb26 (unhide G_181).le)
       clear G_181
       have HT1_191 := hide ((unhide HT1_182).below hb26 (unhide HT1_182).le)
       clear HT1_182
       have HT3_192 := hide ((unhide HT3_183).below hb26 (unhide HT3_183).le)
       clear HT3_183
       clear hb26
       clear HT1_191
       clear HT3_192
       obtain ⟨aH, cH, rfl, -⟩ := own_rowV hoH
       rw [unhide HNL] at hoH
       rw [unhide HNL]
       obtain ⟨loH, hiH, eloH, ehiH⟩ : ∃ lo hi, lo = w25.heap.size ∧ hi = w26.heap.size := ⟨_, _, rfl, rfl⟩
       have H_193 := hide (held_of hoH)
       rw [← eloH, ← ehiH] at H_193
       clear hoH eloH ehiH
       go_wp2_with fail
       refine hK.out _ _ ?_ (fun hHeldH4 => ?_)
       · exact ⟨(unhide A_185).S, (unhide Av_186).S⟩
       clear hK K
       try simp only [Act.put, qqA, qqB, qqC]
       refine wtk (i := 5) (oi := oAvw15) (v := ?_) rfl (Or.inl ⟨by rfl, ?_⟩) (by assumption) ?_
       rotate_left 1
       · (intro w' hSw; (try dsimp only at hSw); go_simp; try with_reducible rfl)
       try simp only [Act.put, qqA, qqB, qqC]
       refine wtk (i := 6) (oi := oAvw16) (v := ?_) rfl (Or.inl ⟨by rfl, ?_⟩) (by assumption) ?_
       rotate_left 1
       · (intro w' hSw; (try dsimp only at hSw); go_simp; try with_reducible rfl)
       try simp only [Act.put, qqA, qqB, qqC]
       refine wtk (i := 7) (oi := oAvw17) (v := ?_) rfl (Or.inl ⟨by rfl, ?_⟩) (by assumption) ?_
       rotate_left 1
       · (intro w' hSw; (try dsimp only at hSw); go_simp; try with_reducible rfl)
       try simp only [Act.put, qqA, qqB, qqC]
       refine wpAnyH_ready (rs := [8]) (by kernel_rfl) (by simp) ?_
       refine AllReadyH.cons (o := oAvw12) rfl (fun K hK => ?_) AllReadyH.nil
       obtain ⟨PH, hP⟩ : ∃ P, P = w26.heap.size := ⟨_, rfl⟩
       have zPH : w.heap.size + 1 < PH := by rw [hP]; exact (unhide Av_186).lt
       have zPHG : w11.heap.size ≤ PH := by rw [hP]; exact (unhide G_190).le
       have zPHH : hiH ≤ PH := by rw [hP]; exact (unhide H_193).le
       have zPHbW : PW < PH := by rw [hP]; exact (unhide bW_188).lt
       have zPHbG : w11.heap.size < PH := by rw [hP]; exact (unhide bG_189).lt
       have B_194 := hide ((unhide B_184).alloc (unhide B_184).size (.cells #[.int .i64 0, .int .i64 0, .int .i64 0, .slice none 0 0] 30))
       clear B_184
       have A_195 := hide ((unhide A_185).alloc (.cells #[.int .i64 0, .int .i64 0, .int .i64 0, .slice none 0 0] 30))
       clear A_185
       have Av_196 := hide ((unhide Av_186).alloc (.cells #[.int .i64 0, .int .i64 0, .int .i64 0, .slice none 0 0] 30))
       clear Av_186
       have W_197 := hide ((unhide W_187).below (Go.Joins.below_alloc1 _ (.cells #[.int .i64 0, .int .i64 0, .int .i64 0, .slice none 0 0] 30)) (unhide W_187).le)
       clear W_187
       have bW_198 := hide ((unhide bW_188).alloc (.cells #[.int .i64 0, .int .i64 0, .int .i64 0, .slice none 0 0] 30))
       clear bW_188
       have bG_199 := hide ((unhide bG_189).alloc (.cells #[.int .i64 0, .int .i64 0, .int .i64 0, .slice none 0 0] 30))
       clear bG_189
       have G_200 := hide ((unhide G_190).below (Go.Joins.below_alloc1 _ (.cells #[.int .i64 0, .int .i64 0, .int .i64 0, .slice none 0 0] 30)) (unhide G_190).le)
       clear G_190
       have H_201 := hide ((unhide H_193).below (Go.Joins.below_alloc1 _ (.cells #[.int .i64 0, .int .i64 0, .int .i64 0, .slice none 0 0] 30)) (unhide H_193).le)
       clear H_193
       have bH_202 := hide (BF.new w26 #[.int .i64 0, .int .i64 0, .int .i64 0, .slice none 0 0] 30)
       rw [← hP] at bH_202
       go_simp
       refine hK.out _ _ ?_ (fun hHeldHA => ?_)
       · exact ⟨(unhide A_195).S, (unhide Av_196).S⟩
       clear hK K
       try simp only [Act.put, qqA, qqB, qqC]
       rw [← hP]
       clear hP
       generalize w26.alloc (.cells #[.int .i64 0, .int .i64 0, .int .i64 0, .slice none 0 0] 30) = w27 at B_194 A_195 Av_196 W_197 bW_198 bG_199 G_200 H_201 bH_202 hHeldHA ⊢
       refine wpAnyH_ready (rs := [9]) (by kernel_rfl) (by simp) ?_
       refine AllReadyH.cons (o := oAvw18) rfl (fun K hK => ?_) AllReadyH.nil
       have kn := (unhide bH_202).S
       have knf := (unhide bH_202).F
       obtain ⟨w28, hw28, hF28, hg28⟩ := put4G w27 (unhide bH_202) (.int .i64 nb2) (.int .i64 vw2) (.int .i64 vh2) (.slice aH nL cH)
       have hne28 : ∀ q, q ≠ PH → (some PH : Option Nat) ≠ some q := fun q h e => h (Option.some.inj e).symm
       have B_203 := hide ((unhide B_194).grown hg28 (unhide B_194).size (fun k hk => by have e : PH = k := Option.some.inj hk; omega))
       clear B_194
       have A_204 := hide ((unhide A_195).grown hg28 (hne28 _ (by omega)))
       clear A_195
       have Av_205 := hide ((unhide Av_196).grown hg28 (hne28 _ (by omega)))
       clear Av_196
       have W_206 := hide ((unhide W_197).grown hg28 (fun k hk => by have e : PH = k := Option.some.inj hk; omega))
       clear W_197
       have bW_207 := hide ((unhide bW_198).grown hg28 (hne28 _ (by omega)))
       clear bW_198
       have bG_208 := hide ((unhide bG_199).grown hg28 (hne28 _ (by omega)))
       clear bG_199
       have G_209 := hide ((unhide G_200).grown hg28 (fun k hk => by have e : PH = k := Option.some.inj hk; omega))
       clear G_200
       have H_210 := hide ((unhide H_201).grown hg28 (fun k hk => by have e : PH = k := Option.some.inj hk; omega))
       clear H_201
       have bH_211 := hide (hF28)
       clear bH_202
       go_simp
       rw [← hw28]
       refine hK.out _ _ ?_ (fun hHeldHS => ?_)
       · exact ⟨(unhide A_204).S, (unhide Av_205).S⟩
       clear hK K
       try simp only [Act.put, qqA, qqB, qqC]
       clear kn knf hw28 hF28 hg28 hne28
       refine wtk (i := 10) (oi := oAvw19) (v := ?_) rfl (Or.inl ⟨by rfl, ?_⟩) (by assumption) ?_
       rotate_left 1
       · (intro w' hSw; (try dsimp only at hSw); go_simp; try with_reducible rfl)
       try simp only [Act.put, qqA, qqB, qqC]
       refine wpAnyH_done (by kernel_rfl) ?_ _
       have zEH : PH < w28.heap.size := (unhide bH_211).lt
       have zHH : hiH ≤ w28.heap.size := (unhide H_210).le
       have kbH := (unhide bH_211).S
       have kbW := (unhide bW_207).S
       go_wp2_with fail
       refine (eqMr nb2 vw2 vh2 aH aW cH cW nL L HNL (Nat.le_trans (unhide HN10) (by decide)) _ (unhide H_210).rowV (unhide W_206).rowV).mono ?_
       rintro e w29 ⟨rfl, hb29⟩
       clear kbH kbW
       have B_212 := hide ((unhide B_203).trans (hb29.mono (unhide B_203).size))
       clear B_203
       have A_213 := hide ((unhide A_204).below hb29)
       clear A_204
       have Av_214 := hide ((unhide Av_205).below hb29)
       clear Av_205
       have W_215 := hide ((unhide W_206).below hb29 (unhide W_206).le)
       clear W_206
       have bW_216 := hide ((unhide bW_207).below hb29)
       clear bW_207
       have bG_217 := hide ((unhide bG_208).below hb29)
       clear bG_208
       have G_218 := hide ((unhide G_209).below hb29 (unhide G_209).le)
       clear G_209
       have H_219 := hide ((unhide H_210).below hb29 (unhide H_210).le)
       clear H_210
       have bH_220 := hide ((unhide bH_211).below hb29)
       clear bH_211
       clear hb29
       have kbG := (unhide bG_217).S
       go_wp2_with fail
       refine (heldMr nb2 vw2 vh2 _ nL _ _ _ 1 q HQ (by decide) (by decide) (by have := unhide HN10; omega) _ (unhide G_218)).mono ?_
       rintro e w30 ⟨rfl, hb30⟩
       clear kbG
       have B_221 := hide ((unhide B_212).trans (hb30.mono (unhide B_212).size))
       clear B_212
       have A_222 := hide ((unhide A_213).below hb30)
       clear A_213
       have Av_223 := hide ((unhide Av_214).below hb30)
       clear Av_214
       have W_224 := hide ((unhide W_215).below hb30 (unhide W_215).le)
       clear W_215
       have bW_225 := hide ((unhide bW_216).below hb30)
       clear bW_216
       have bG_226 := hide ((unhide bG_217).below hb30)
       clear bG_217
       have G_227 := hide ((unhide G_218).below hb30 (unhide G_218).le)
       clear G_218
       have H_228 := hide ((unhide H_219).below hb30 (unhide H_219).le)
       clear H_219
       have bH_229 := hide ((unhide bH_220).below hb30)
       clear bH_220
       clear hb30
       go_wp2_with fail
       go_ret
       exact ⟨rfl, (unhide B_221)⟩
      ·
       obtain ⟨PH, hP⟩ : ∃ P, P = w25.heap.size := ⟨_, rfl⟩
       have zPH : w.heap.size + 1 < PH := by rw [hP]; exact (unhide Av_177).lt
       have zPHG : w11.heap.size ≤ PH := by rw [hP]; exact (unhide G_181).le
       have zPHbW : PW < PH := by rw [hP]; exact (unhide bW_179).lt
       have zPHbG : w11.heap.size < PH := by rw [hP]; exact (unhide bG_180).lt
       have B_184 := hide ((unhide B_175).alloc (unhide B_175).size (.cells #[.int .i64 0, .int .i64 0, .int .i64 0, .slice none 0 0] 30))
       clear B_175
       have A_185 := hide ((unhide A_176).alloc (.cells #[.int .i64 0, .int .i64 0, .int .i64 0, .slice none 0 0] 30))
       clear A_176
       have Av_186 := hide ((unhide Av_177).alloc (.cells #[.int .i64 0, .int .i64 0, .int .i64 0, .slice none 0 0] 30))
       clear Av_177
       have W_187 := hide ((unhide W_178).below (Go.Joins.below_alloc1 _ (.cells #[.int .i64 0, .int .i64 0, .int .i64 0, .slice none 0 0] 30)) (unhide W_178).le)
       clear W_178
       have bW_188 := hide ((unhide bW_179).alloc (.cells #[.int .i64 0, .int .i64 0, .int .i64 0, .slice none 0 0] 30))
       clear bW_179
       have bG_189 := hide ((unhide bG_180).alloc (.cells #[.int .i64 0, .int .i64 0, .int .i64 0, .slice none 0 0] 30))
       clear bG_180
       have G_190 := hide ((unhide G_181).below (Go.Joins.below_alloc1 _ (.cells #[.int .i64 0, .int .i64 0, .int .i64 0, .slice none 0 0] 30)) (unhide G_181).le)
       clear G_181
       have HT1_191 := hide ((unhide HT1_182).below (Go.Joins.below_alloc1 _ (.cells #[.int .i64 0, .int .i64 0, .int .i64 0, .slice none 0 0] 30)) (unhide HT1_182).le)
       clear HT1_182
       have HT3_192 := hide ((unhide HT3_183).below (Go.Joins.below_alloc1 _ (.cells #[.int .i64 0, .int .i64 0, .int .i64 0, .slice none 0 0] 30)) (unhide HT3_183).le)
       clear HT3_183
       have bH_193 := hide (BF.new w25 #[.int .i64 0, .int .i64 0, .int .i64 0, .slice none 0 0] 30)
       rw [← hP] at bH_193
       go_simp
       refine hK.out _ _ ?_ (fun hHeldHA => ?_)
       · exact ⟨(unhide A_185).S, (unhide Av_186).S⟩
       clear hK K
       try simp only [Act.put, qqA, qqB, qqC]
       rw [← hP]
       clear hP
       generalize w25.alloc (.cells #[.int .i64 0, .int .i64 0, .int .i64 0, .slice none 0 0] 30) = w26 at B_184 A_185 Av_186 W_187 bW_188 bG_189 G_190 HT1_191 HT3_192 bH_193 hHeldHA ⊢
       refine wpAnyH_ready (rs := [4]) (by kernel_rfl) (by simp) ?_
       refine AllReadyH.cons (o := oAvw14) rfl (fun K hK => ?_) AllReadyH.nil
       have HPLH : Hid (PH < w26.heap.size) := (unhide bH_193).lt
       go_simp
       refine (iaccept nb vw vh _ _ n l HN (unhide HL) HSZ nbv frv fuv vwv vhv _ _ nv lv HNv (unhide HLv) HSZv nb2 vw2 vh2 L c HIS _ (unhide HT1_191).rowV (unhide HT3_192).rowV).mono ?_
       rintro e w27 ⟨vH, rfl, hoH, hb27⟩
       have zc27 := hb27.size
       have B_194 := hide ((unhide B_184).trans (hb27.mono (unhide B_184).size))
       clear B_184
       have A_195 := hide ((unhide A_185).below hb27)
       clear A_185
       have Av_196 := hide ((unhide Av_186).below hb27)
       clear Av_186
       have W_197 := hide ((unhide W_187).below hb27 (unhide W_187).le)
       clear W_187
       have bW_198 := hide ((unhide bW_188).below hb27)
       clear bW_188
       have bG_199 := hide ((unhide bG_189).below hb27)
       clear bG_189
       have G_200 := hide ((unhide G_190).below hb27 (unhide G_190).le)
       clear G_190
       have HT1_201 := hide ((unhide HT1_191).below hb27 (unhide HT1_191).le)
       clear HT1_191
       have HT3_202 := hide ((unhide HT3_192).below hb27 (unhide HT3_192).le)
       clear HT3_192
       have bH_203 := hide ((unhide bH_193).below hb27)
       clear bH_193
       clear hb27
       clear HT1_201
       clear HT3_202
       obtain ⟨aH, cH, rfl, -⟩ := own_rowV hoH
       rw [unhide HNL] at hoH
       rw [unhide HNL]
       obtain ⟨loH, hiH, eloH, ehiH⟩ : ∃ lo hi, lo = w26.heap.size ∧ hi = w27.heap.size := ⟨_, _, rfl, rfl⟩
       have H_204 := hide (held_of hoH)
       rw [← eloH, ← ehiH] at H_204
       have zPHr : PH < loH := by rw [eloH]; exact unhide HPLH
       clear hoH eloH ehiH
       go_wp2_with fail
       refine hK.out _ _ ?_ (fun hHeldH4 => ?_)
       · exact ⟨(unhide A_195).S, (unhide Av_196).S⟩
       clear hK K
       try simp only [Act.put, qqA, qqB, qqC]
       refine wtk (i := 5) (oi := oAvw15) (v := ?_) rfl (Or.inl ⟨by rfl, ?_⟩) (by assumption) ?_
       rotate_left 1
       · (intro w' hSw; (try dsimp only at hSw); go_simp; try with_reducible rfl)
       try simp only [Act.put, qqA, qqB, qqC]
       refine wtk (i := 6) (oi := oAvw16) (v := ?_) rfl (Or.inl ⟨by rfl, ?_⟩) (by assumption) ?_
       rotate_left 1
       · (intro w' hSw; (try dsimp only at hSw); go_simp; try with_reducible rfl)
       try simp only [Act.put, qqA, qqB, qqC]
       refine wtk (i := 7) (oi := oAvw17) (v := ?_) rfl (Or.inl ⟨by rfl, ?_⟩) (by assumption) ?_
       rotate_left 1
       · (intro w' hSw; (try dsimp only at hSw); go_simp; try with_reducible rfl)
       try simp only [Act.put, qqA, qqB, qqC]
       refine wpAnyH_ready (rs := [9]) (by kernel_rfl) (by simp) ?_
       refine AllReadyH.cons (o := oAvw18) rfl (fun K hK => ?_) AllReadyH.nil
       have kn := (unhide bH_203).S
       have knf := (unhide bH_203).F
       obtain ⟨w28, hw28, hF28, hg28⟩ := put4G w27 (unhide bH_203) (.int .i64 nb2) (.int .i64 vw2) (.int .i64 vh2) (.slice aH nL cH)
       have hne28 : ∀ q, q ≠ PH → (some PH : Option Nat) ≠ some q := fun q h e => h (Option.some.inj e).symm
       have B_205 := hide ((unhide B_194).grown hg28 (unhide B_194).size (fun k hk => by have e : PH = k := Option.some.inj hk; omega))
       clear B_194
       have A_206 := hide ((unhide A_195).grown hg28 (hne28 _ (by omega)))
       clear A_195
       have Av_207 := hide ((unhide Av_196).grown hg28 (hne28 _ (by omega)))
       clear Av_196
       have W_208 := hide ((unhide W_197).grown hg28 (fun k hk => by have e : PH = k := Option.some.inj hk; omega))
       clear W_197
       have bW_209 := hide ((unhide bW_198).grown hg28 (hne28 _ (by omega)))
       clear bW_198
       have bG_210 := hide ((unhide bG_199).grown hg28 (hne28 _ (by omega)))
       clear bG_199
       have G_211 := hide ((unhide G_200).grown hg28 (fun k hk => by have e : PH = k := Option.some.inj hk; omega))
       clear G_200
       have H_212 := hide ((unhide H_204).grown hg28 (fun k hk => by have e : PH = k := Option.some.inj hk; omega))
       clear H_204
       have bH_213 := hide (hF28)
       clear bH_203
       go_simp
       rw [← hw28]
       refine hK.out _ _ ?_ (fun hHeldHS => ?_)
       · exact ⟨(unhide A_206).S, (unhide Av_207).S⟩
       clear hK K
       try simp only [Act.put, qqA, qqB, qqC]
       clear kn knf hw28 hF28 hg28 hne28
       refine wtk (i := 10) (oi := oAvw19) (v := ?_) rfl (Or.inl ⟨by rfl, ?_⟩) (by assumption) ?_
       rotate_left 1
       · (intro w' hSw; (try dsimp only at hSw); go_simp; try with_reducible rfl)
       try simp only [Act.put, qqA, qqB, qqC]
       refine wpAnyH_done (by kernel_rfl) ?_ _
       have zEH : PH < w28.heap.size := (unhide bH_213).lt
       have zHH : hiH ≤ w28.heap.size := (unhide H_212).le
       have kbH := (unhide bH_213).S
       have kbW := (unhide bW_209).S
       go_wp2_with fail
       refine (eqMr nb2 vw2 vh2 aH aW cH cW nL L HNL (Nat.le_trans (unhide HN10) (by decide)) _ (unhide H_212).rowV (unhide W_208).rowV).mono ?_
       rintro e w29 ⟨rfl, hb29⟩
       clear kbH kbW
       have B_214 := hide ((unhide B_205).trans (hb29.mono (unhide B_205).size))
       clear B_205
       have A_215 := hide ((unhide A_206).below hb29)
       clear A_206
       have Av_216 := hide ((unhide Av_207).below hb29)
       clear Av_207
       have W_217 := hide ((unhide W_208).below hb29 (unhide W_208).le)
       clear W_208
       have bW_218 := hide ((unhide bW_209).below hb29)
       clear bW_209
       have bG_219 := hide ((unhide bG_210).below hb29)
       clear bG_210
       have G_220 := hide ((unhide G_211).below hb29 (unhide G_211).le)
       clear G_211
       have H_221 := hide ((unhide H_212).below hb29 (unhide H_212).le)
       clear H_212
       have bH_222 := hide ((unhide bH_213).below hb29)
       clear bH_213
       clear hb29
       have kbG := (unhide bG_219).S
       go_wp2_with fail
       refine (heldMr nb2 vw2 vh2 _ nL _ _ _ 1 q HQ (by decide) (by decide) (by have := unhide HN10; omega) _ (unhide G_220)).mono ?_
       rintro e w30 ⟨rfl, hb30⟩
       clear kbG
       have B_223 := hide ((unhide B_214).trans (hb30.mono (unhide B_214).size))
       clear B_214
       have A_224 := hide ((unhide A_215).below hb30)
       clear A_215
       have Av_225 := hide ((unhide Av_216).below hb30)
       clear Av_216
       have W_226 := hide ((unhide W_217).below hb30 (unhide W_217).le)
       clear W_217
       have bW_227 := hide ((unhide bW_218).below hb30)
       clear bW_218
       have bG_228 := hide ((unhide bG_219).below hb30)
       clear bG_219
       have G_229 := hide ((unhide G_220).below hb30 (unhide G_220).le)
       clear G_220
       have H_230 := hide ((unhide H_221).below hb30 (unhide H_221).le)
       clear H_221
       have bH_231 := hide ((unhide bH_222).below hb30)
       clear bH_222
       clear hb30
       go_wp2_with fail
       go_ret
       exact ⟨rfl, (unhide B_223)⟩
     ·
      obtain ⟨PH, hP⟩ : ∃ P, P = w24.heap.size := ⟨_, rfl⟩
      have zPH : w.heap.size + 1 < PH := by rw [hP]; exact (unhide Av_169).lt
      have zPHG : w11.heap.size ≤ PH := by rw [hP]; exact (unhide G_173).le
      have zPHbW : PW < PH := by rw [hP]; exact (unhide bW_171).lt
      have zPHbG : w11.heap.size < PH := by rw [hP]; exact (unhide bG_172).lt
      have B_175 := hide ((unhide B_167).alloc (unhide B_167).size (.cells #[.int .i64 0, .int .i64 0, .int .i64 0, .slice none 0 0] 30))
      clear B_167
      have A_176 := hide ((unhide A_168).alloc (.cells #[.int .i64 0, .int .i64 0, .int .i64 0, .slice none 0 0] 30))
      clear A_168
      have Av_177 := hide ((unhide Av_169).alloc (.cells #[.int .i64 0, .int .i64 0, .int .i64 0, .slice none 0 0] 30))
      clear Av_169
      have W_178 := hide ((unhide W_170).below (Go.Joins.below_alloc1 _ (.cells #[.int .i64 0, .int .i64 0, .int .i64 0, .slice none 0 0] 30)) (unhide W_170).le)
      clear W_170
      have bW_179 := hide ((unhide bW_171).alloc (.cells #[.int .i64 0, .int .i64 0, .int .i64 0, .slice none 0 0] 30))
      clear bW_171
      have bG_180 := hide ((unhide bG_172).alloc (.cells #[.int .i64 0, .int .i64 0, .int .i64 0, .slice none 0 0] 30))
      clear bG_172
      have G_181 := hide ((unhide G_173).below (Go.Joins.below_alloc1 _ (.cells #[.int .i64 0, .int .i64 0, .int .i64 0, .slice none 0 0] 30)) (unhide G_173).le)
      clear G_173
      have HT1_182 := hide ((unhide HT1_174).below (Go.Joins.below_alloc1 _ (.cells #[.int .i64 0, .int .i64 0, .int .i64 0, .slice none 0 0] 30)) (unhide HT1_174).le)
      clear HT1_174
      have bH_183 := hide (BF.new w24 #[.int .i64 0, .int .i64 0, .int .i64 0, .slice none 0 0] 30)
      rw [← hP] at bH_183
      go_simp
      refine hK.out _ _ ?_ (fun hHeldHA => ?_)
      · exact ⟨(unhide A_176).S, (unhide Av_177).S⟩
      clear hK K
      try simp only [Act.put, qqA, qqB, qqC]
      rw [← hP]
      clear hP
      generalize w24.alloc (.cells #[.int .i64 0, .int .i64 0, .int .i64 0, .slice none 0 0] 30) = w25 at B_175 A_176 Av_177 W_178 bW_179 bG_180 G_181 HT1_182 bH_183 hHeldHA ⊢
      refine wpAnyH_ready (rs := [3]) (by kernel_rfl) (by simp) ?_
      refine AllReadyH.cons (o := oAvw13) rfl (fun K hK => ?_) AllReadyH.nil
      go_simp
      refine (toVw nbv frv vwv vhv fuv av capv nv lv HNv (unhide HLv) _ ((unhide HRv).below (unhide B_175))).mono ?_
      rintro e w26 ⟨g26, rfl, o26, hb26⟩
      have zc26 := hb26.size
      have B_184 := hide ((unhide B_175).trans (hb26.mono (unhide B_175).size))
      clear B_175
      have A_185 := hide ((unhide A_176).below hb26)
      clear A_176
      have Av_186 := hide ((unhide Av_177).below hb26)
      clear Av_177
      have W_187 := hide ((unhide W_178).below hb26 (unhide W_178).le)
      clear W_178
      have bW_188 := hide ((unhide bW_179).below hb26)
      clear bW_179
      have bG_189 := hide ((unhide bG_180).below hb26)
      clear bG_180
      have G_190 := hide ((unhide G_181).below hb26 (unhide G_181).le)
      clear G_181
      have HT1_191 := hide ((unhide HT1_182).below hb26 (unhide HT1_182).le)
      clear HT1_182
      have bH_192 := hide ((unhide bH_183).below hb26)
      clear bH_183
      clear hb26
      have HT3_193 := hide (heldZ_of o26)
      clear o26
      go_wp2_with fail
      refine hK.out _ _ ?_ (fun hHeldH3 => ?_)
      · exact ⟨(unhide A_185).S, (unhide Av_186).S⟩
      clear hK K
      try simp only [Act.put, qqA, qqB, qqC]
      refine wpAnyH_ready (rs := [4]) (by kernel_rfl) (by simp) ?_
      refine AllReadyH.cons (o := oAvw14) rfl (fun K hK => ?_) AllReadyH.nil
      have HPLH : Hid (PH < w26.heap.size) := (unhide bH_192).lt
      go_simp
      refine (iaccept nb vw vh _ _ n l HN (unhide HL) HSZ nbv frv fuv vwv vhv _ _ nv lv HNv (unhide HLv) HSZv nb2 vw2 vh2 L c HIS _ (unhide HT1_191).rowV (unhide HT3_193).rowV).mono ?_
      rintro e w27 ⟨vH, rfl, hoH, hb27⟩
      have zc27 := hb27.size
      have B_194 := hide ((unhide B_184).trans (hb27.mono (unhide B_184).size))
      clear B_184
      have A_195 := hide ((unhide A_185).below hb27)
      clear A_185
      have Av_196 := hide ((unhide Av_186).below hb27)
      clear Av_186
      have W_197 := hide ((unhide W_187).below hb27 (unhide W_187).le)
      clear W_187
      have bW_198 := hide ((unhide bW_188).below hb27)
      clear bW_188
      have bG_199 := hide ((unhide bG_189).below hb27)
      clear bG_189
      have G_200 := hide ((unhide G_190).below hb27 (unhide G_190).le)
      clear G_190
      have HT1_201 := hide ((unhide HT1_191).below hb27 (unhide HT1_191).le)
      clear HT1_191
      have bH_202 := hide ((unhide bH_192).below hb27)
      clear bH_192
      have HT3_203 := hide ((unhide HT3_193).below hb27 (unhide HT3_193).le)
      clear HT3_193
      clear hb27
      clear HT1_201
      clear HT3_203
      obtain ⟨aH, cH, rfl, -⟩ := own_rowV hoH
      rw [unhide HNL] at hoH
      rw [unhide HNL]
      obtain ⟨loH, hiH, eloH, ehiH⟩ : ∃ lo hi, lo = w26.heap.size ∧ hi = w27.heap.size := ⟨_, _, rfl, rfl⟩
      have H_204 := hide (held_of hoH)
      rw [← eloH, ← ehiH] at H_204
      have zPHr : PH < loH := by rw [eloH]; exact unhide HPLH
      clear hoH eloH ehiH
      go_wp2_with fail
      refine hK.out _ _ ?_ (fun hHeldH4 => ?_)
      · exact ⟨(unhide A_195).S, (unhide Av_196).S⟩
      clear hK K
      try simp only [Act.put, qqA, qqB, qqC]
      refine wtk (i := 5) (oi := oAvw15) (v := ?_) rfl (Or.inl ⟨by rfl, ?_⟩) (by assumption) ?_
      rotate_left 1
      · (intro w' hSw; (try dsimp only at hSw); go_simp; try with_reducible rfl)
      try simp only [Act.put, qqA, qqB, qqC]
      refine wtk (i := 6) (oi := oAvw16) (v := ?_) rfl (Or.inl ⟨by rfl, ?_⟩) (by assumption) ?_
      rotate_left 1
      · (intro w' hSw; (try dsimp only at hSw); go_simp; try with_reducible rfl)
      try simp only [Act.put, qqA, qqB, qqC]
      refine wtk (i := 7) (oi := oAvw17) (v := ?_) rfl (Or.inl ⟨by rfl, ?_⟩) (by assumption) ?_
      rotate_left 1
      · (intro w' hSw; (try dsimp only at hSw); go_simp; try with_reducible rfl)
      try simp only [Act.put, qqA, qqB, qqC]
      refine wpAnyH_ready (rs := [9]) (by kernel_rfl) (by simp) ?_
      refine AllReadyH.cons (o := oAvw18) rfl (fun K hK => ?_) AllReadyH.nil
      have kn := (unhide bH_202).S
      have knf := (unhide bH_202).F
      obtain ⟨w28, hw28, hF28, hg28⟩ := put4G w27 (unhide bH_202) (.int .i64 nb2) (.int .i64 vw2) (.int .i64 vh2) (.slice aH nL cH)
      have hne28 : ∀ q, q ≠ PH → (some PH : Option Nat) ≠ some q := fun q h e => h (Option.some.inj e).symm
      have B_205 := hide ((unhide B_194).grown hg28 (unhide B_194).size (fun k hk => by have e : PH = k := Option.some.inj hk; omega))
      clear B_194
      have A_206 := hide ((unhide A_195).grown hg28 (hne28 _ (by omega)))
      clear A_195
      have Av_207 := hide ((unhide Av_196).grown hg28 (hne28 _ (by omega)))
      clear Av_196
      have W_208 := hide ((unhide W_197).grown hg28 (fun k hk => by have e : PH = k := Option.some.inj hk; omega))
      clear W_197
      have bW_209 := hide ((unhide bW_198).grown hg28 (hne28 _ (by omega)))
      clear bW_198
      have bG_210 := hide ((unhide bG_199).grown hg28 (hne28 _ (by omega)))
      clear bG_199
      have G_211 := hide ((unhide G_200).grown hg28 (fun k hk => by have e : PH = k := Option.some.inj hk; omega))
      clear G_200
      have H_212 := hide ((unhide H_204).grown hg28 (fun k hk => by have e : PH = k := Option.some.inj hk; omega))
      clear H_204
      have bH_213 := hide (hF28)
      clear bH_202
      go_simp
      rw [← hw28]
      refine hK.out _ _ ?_ (fun hHeldHS => ?_)
      · exact ⟨(unhide A_206).S, (unhide Av_207).S⟩
      clear hK K
      try simp only [Act.put, qqA, qqB, qqC]
      clear kn knf hw28 hF28 hg28 hne28
      refine wtk (i := 10) (oi := oAvw19) (v := ?_) rfl (Or.inl ⟨by rfl, ?_⟩) (by assumption) ?_
      rotate_left 1
      · (intro w' hSw; (try dsimp only at hSw); go_simp; try with_reducible rfl)
      try simp only [Act.put, qqA, qqB, qqC]
      refine wpAnyH_done (by kernel_rfl) ?_ _
      have zEH : PH < w28.heap.size := (unhide bH_213).lt
      have zHH : hiH ≤ w28.heap.size := (unhide H_212).le
      have kbH := (unhide bH_213).S
      have kbW := (unhide bW_209).S
      go_wp2_with fail
      refine (eqMr nb2 vw2 vh2 aH aW cH cW nL L HNL (Nat.le_trans (unhide HN10) (by decide)) _ (unhide H_212).rowV (unhide W_208).rowV).mono ?_
      rintro e w29 ⟨rfl, hb29⟩
      clear kbH kbW
      have B_214 := hide ((unhide B_205).trans (hb29.mono (unhide B_205).size))
      clear B_205
      have A_215 := hide ((unhide A_206).below hb29)
      clear A_206
      have Av_216 := hide ((unhide Av_207).below hb29)
      clear Av_207
      have W_217 := hide ((unhide W_208).below hb29 (unhide W_208).le)
      clear W_208
      have bW_218 := hide ((unhide bW_209).below hb29)
      clear bW_209
      have bG_219 := hide ((unhide bG_210).below hb29)
      clear bG_210
      have G_220 := hide ((unhide G_211).below hb29 (unhide G_211).le)
      clear G_211
      have H_221 := hide ((unhide H_212).below hb29 (unhide H_212).le)
      clear H_212
      have bH_222 := hide ((unhide bH_213).below hb29)
      clear bH_213
      clear hb29
      have kbG := (unhide bG_219).S
      go_wp2_with fail
      refine (heldMr nb2 vw2 vh2 _ nL _ _ _ 1 q HQ (by decide) (by decide) (by have := unhide HN10; omega) _ (unhide G_220)).mono ?_
      rintro e w30 ⟨rfl, hb30⟩
      clear kbG
      have B_223 := hide ((unhide B_214).trans (hb30.mono (unhide B_214).size))
      clear B_214
      have A_224 := hide ((unhide A_215).below hb30)
      clear A_215
      have Av_225 := hide ((unhide Av_216).below hb30)
      clear Av_216
      have W_226 := hide ((unhide W_217).below hb30 (unhide W_217).le)
      clear W_217
      have bW_227 := hide ((unhide bW_218).below hb30)
      clear bW_218
      have bG_228 := hide ((unhide bG_219).below hb30)
      clear bG_219
      have G_229 := hide ((unhide G_220).below hb30 (unhide G_220).le)
      clear G_220
      have H_230 := hide ((unhide H_221).below hb30 (unhide H_221).le)
      clear H_221
      have bH_231 := hide ((unhide bH_222).below hb30)
      clear bH_222
      clear hb30
      go_wp2_with fail
      go_ret
      exact ⟨rfl, (unhide B_223)⟩
    ·
     obtain ⟨PH, hP⟩ : ∃ P, P = w23.heap.size := ⟨_, rfl⟩
     have zPH : w.heap.size + 1 < PH := by rw [hP]; exact (unhide Av_162).lt
     have zPHG : w11.heap.size ≤ PH := by rw [hP]; exact (unhide G_166).le
     have zPHbW : PW < PH := by rw [hP]; exact (unhide bW_164).lt
     have zPHbG : w11.heap.size < PH := by rw [hP]; exact (unhide bG_165).lt
     have B_167 := hide ((unhide B_160).alloc (unhide B_160).size (.cells #[.int .i64 0, .int .i64 0, .int .i64 0, .slice none 0 0] 30))
     clear B_160
     have A_168 := hide ((unhide A_161).alloc (.cells #[.int .i64 0, .int .i64 0, .int .i64 0, .slice none 0 0] 30))
     clear A_161
     have Av_169 := hide ((unhide Av_162).alloc (.cells #[.int .i64 0, .int .i64 0, .int .i64 0, .slice none 0 0] 30))
     clear Av_162
     have W_170 := hide ((unhide W_163).below (Go.Joins.below_alloc1 _ (.cells #[.int .i64 0, .int .i64 0, .int .i64 0, .slice none 0 0] 30)) (unhide W_163).le)
     clear W_163
     have bW_171 := hide ((unhide bW_164).alloc (.cells #[.int .i64 0, .int .i64 0, .int .i64 0, .slice none 0 0] 30))
     clear bW_164
     have bG_172 := hide ((unhide bG_165).alloc (.cells #[.int .i64 0, .int .i64 0, .int .i64 0, .slice none 0 0] 30))
     clear bG_165
     have G_173 := hide ((unhide G_166).below (Go.Joins.below_alloc1 _ (.cells #[.int .i64 0, .int .i64 0, .int .i64 0, .slice none 0 0] 30)) (unhide G_166).le)
     clear G_166
     have bH_174 := hide (BF.new w23 #[.int .i64 0, .int .i64 0, .int .i64 0, .slice none 0 0] 30)
     rw [← hP] at bH_174
     go_simp
     refine hK.out _ _ ?_ (fun hHeldHA => ?_)
     · exact ⟨(unhide A_168).S, (unhide Av_169).S⟩
     clear hK K
     try simp only [Act.put, qqA, qqB, qqC]
     rw [← hP]
     clear hP
     generalize w23.alloc (.cells #[.int .i64 0, .int .i64 0, .int .i64 0, .slice none 0 0] 30) = w24 at B_167 A_168 Av_169 W_170 bW_171 bG_172 G_173 bH_174 hHeldHA ⊢
     refine wpAnyH_ready (rs := [1]) (by kernel_rfl) (by simp) ?_
     refine AllReadyH.cons (o := oAvw11) rfl (fun K hK => ?_) AllReadyH.nil
     go_simp
     refine (toMr nb vw vh a cap n l HN (unhide HL) _ ((unhide HR).below (unhide B_167))).mono ?_
     rintro e w25 ⟨g25, rfl, o25, hb25⟩
     have zc25 := hb25.size
     have B_175 := hide ((unhide B_167).trans (hb25.mono (unhide B_167).size))
     clear B_167
     have A_176 := hide ((unhide A_168).below hb25)
     clear A_168
     have Av_177 := hide ((unhide Av_169).below hb25)
     clear Av_169
     have W_178 := hide ((unhide W_170).below hb25 (unhide W_170).le)
     clear W_170
     have bW_179 := hide ((unhide bW_171).below hb25)
     clear bW_171
     have bG_180 := hide ((unhide bG_172).below hb25)
     clear bG_172
     have G_181 := hide ((unhide G_173).below hb25 (unhide G_173).le)
     clear G_173
     have bH_182 := hide ((unhide bH_174).below hb25)
     clear bH_174
     clear hb25
     have HT1_183 := hide (held_of o25)
     clear o25
     go_wp2_with fail
     refine hK.out _ _ ?_ (fun hHeldH1 => ?_)
     · exact ⟨(unhide A_176).S, (unhide Av_177).S⟩
     clear hK K
     try simp only [Act.put, qqA, qqB, qqC]
     refine wpAnyH_ready (rs := [3]) (by kernel_rfl) (by simp) ?_
     refine AllReadyH.cons (o := oAvw13) rfl (fun K hK => ?_) AllReadyH.nil
     go_simp
     refine (toVw nbv frv vwv vhv fuv av capv nv lv HNv (unhide HLv) _ ((unhide HRv).below (unhide B_175))).mono ?_
     rintro e w26 ⟨g26, rfl, o26, hb26⟩
     have zc26 := hb26.size
     have B_184 := hide ((unhide B_175).trans (hb26.mono (unhide B_175).size))
     clear B_175
     have A_185 := hide ((unhide A_176).below hb26)
     clear A_176
     have Av_186 := hide ((unhide Av_177).below hb26)
     clear Av_177
     have W_187 := hide ((unhide W_178).below hb26 (unhide W_178).le)
     clear W_178
     have bW_188 := hide ((unhide bW_179).below hb26)
     clear bW_179
     have bG_189 := hide ((unhide bG_180).below hb26)
     clear bG_180
     have G_190 := hide ((unhide G_181).below hb26 (unhide G_181).le)
     clear G_181
     have bH_191 := hide ((unhide bH_182).below hb26)
     clear bH_182
     have HT1_192 := hide ((unhide HT1_183).below hb26 (unhide HT1_183).le)
     clear HT1_183
     clear hb26
     have HT3_193 := hide (heldZ_of o26)
     clear o26
     go_wp2_with fail
     refine hK.out _ _ ?_ (fun hHeldH3 => ?_)
     · exact ⟨(unhide A_185).S, (unhide Av_186).S⟩
     clear hK K
     try simp only [Act.put, qqA, qqB, qqC]
     refine wpAnyH_ready (rs := [4]) (by kernel_rfl) (by simp) ?_
     refine AllReadyH.cons (o := oAvw14) rfl (fun K hK => ?_) AllReadyH.nil
     have HPLH : Hid (PH < w26.heap.size) := (unhide bH_191).lt
     go_simp
     refine (iaccept nb vw vh _ _ n l HN (unhide HL) HSZ nbv frv fuv vwv vhv _ _ nv lv HNv (unhide HLv) HSZv nb2 vw2 vh2 L c HIS _ (unhide HT1_192).rowV (unhide HT3_193).rowV).mono ?_
     rintro e w27 ⟨vH, rfl, hoH, hb27⟩
     have zc27 := hb27.size
     have B_194 := hide ((unhide B_184).trans (hb27.mono (unhide B_184).size))
     clear B_184
     have A_195 := hide ((unhide A_185).below hb27)
     clear A_185
     have Av_196 := hide ((unhide Av_186).below hb27)
     clear Av_186
     have W_197 := hide ((unhide W_187).below hb27 (unhide W_187).le)
     clear W_187
     have bW_198 := hide ((unhide bW_188).below hb27)
     clear bW_188
     have bG_199 := hide ((unhide bG_189).below hb27)
     clear bG_189
     have G_200 := hide ((unhide G_190).below hb27 (unhide G_190).le)
     clear G_190
     have bH_201 := hide ((unhide bH_191).below hb27)
     clear bH_191
     have HT1_202 := hide ((unhide HT1_192).below hb27 (unhide HT1_192).le)
     clear HT1_192
     have HT3_203 := hide ((unhide HT3_193).below hb27 (unhide HT3_193).le)
     clear HT3_193
     clear hb27
     clear HT1_202
     clear HT3_203
     obtain ⟨aH, cH, rfl, -⟩ := own_rowV hoH
     rw [unhide HNL] at hoH
     rw [unhide HNL]
     obtain ⟨loH, hiH, eloH, ehiH⟩ : ∃ lo hi, lo = w26.heap.size ∧ hi = w27.heap.size := ⟨_, _, rfl, rfl⟩
     have H_204 := hide (held_of hoH)
     rw [← eloH, ← ehiH] at H_204
     have zPHr : PH < loH := by rw [eloH]; exact unhide HPLH
     clear hoH eloH ehiH
     go_wp2_with fail
     refine hK.out _ _ ?_ (fun hHeldH4 => ?_)
     · exact ⟨(unhide A_195).S, (unhide Av_196).S⟩
     clear hK K
     try simp only [Act.put, qqA, qqB, qqC]
     refine wtk (i := 5) (oi := oAvw15) (v := ?_) rfl (Or.inl ⟨by rfl, ?_⟩) (by assumption) ?_
     rotate_left 1
     · (intro w' hSw; (try dsimp only at hSw); go_simp; try with_reducible rfl)
     try simp only [Act.put, qqA, qqB, qqC]
     refine wtk (i := 6) (oi := oAvw16) (v := ?_) rfl (Or.inl ⟨by rfl, ?_⟩) (by assumption) ?_
     rotate_left 1
     · (intro w' hSw; (try dsimp only at hSw); go_simp; try with_reducible rfl)
     try simp only [Act.put, qqA, qqB, qqC]
     refine wtk (i := 7) (oi := oAvw17) (v := ?_) rfl (Or.inl ⟨by rfl, ?_⟩) (by assumption) ?_
     rotate_left 1
     · (intro w' hSw; (try dsimp only at hSw); go_simp; try with_reducible rfl)
     try simp only [Act.put, qqA, qqB, qqC]
     refine wpAnyH_ready (rs := [9]) (by kernel_rfl) (by simp) ?_
     refine AllReadyH.cons (o := oAvw18) rfl (fun K hK => ?_) AllReadyH.nil
     have kn := (unhide bH_201).S
     have knf := (unhide bH_201).F
     obtain ⟨w28, hw28, hF28, hg28⟩ := put4G w27 (unhide bH_201) (.int .i64 nb2) (.int .i64 vw2) (.int .i64 vh2) (.slice aH nL cH)
     have hne28 : ∀ q, q ≠ PH → (some PH : Option Nat) ≠ some q := fun q h e => h (Option.some.inj e).symm
     have B_205 := hide ((unhide B_194).grown hg28 (unhide B_194).size (fun k hk => by have e : PH = k := Option.some.inj hk; omega))
     clear B_194
     have A_206 := hide ((unhide A_195).grown hg28 (hne28 _ (by omega)))
     clear A_195
     have Av_207 := hide ((unhide Av_196).grown hg28 (hne28 _ (by omega)))
     clear Av_196
     have W_208 := hide ((unhide W_197).grown hg28 (fun k hk => by have e : PH = k := Option.some.inj hk; omega))
     clear W_197
     have bW_209 := hide ((unhide bW_198).grown hg28 (hne28 _ (by omega)))
     clear bW_198
     have bG_210 := hide ((unhide bG_199).grown hg28 (hne28 _ (by omega)))
     clear bG_199
     have G_211 := hide ((unhide G_200).grown hg28 (fun k hk => by have e : PH = k := Option.some.inj hk; omega))
     clear G_200
     have H_212 := hide ((unhide H_204).grown hg28 (fun k hk => by have e : PH = k := Option.some.inj hk; omega))
     clear H_204
     have bH_213 := hide (hF28)
     clear bH_201
     go_simp
     rw [← hw28]
     refine hK.out _ _ ?_ (fun hHeldHS => ?_)
     · exact ⟨(unhide A_206).S, (unhide Av_207).S⟩
     clear hK K
     try simp only [Act.put, qqA, qqB, qqC]
     clear kn knf hw28 hF28 hg28 hne28
     refine wtk (i := 10) (oi := oAvw19) (v := ?_) rfl (Or.inl ⟨by rfl, ?_⟩) (by assumption) ?_
     rotate_left 1
     · (intro w' hSw; (try dsimp only at hSw); go_simp; try with_reducible rfl)
     try simp only [Act.put, qqA, qqB, qqC]
     refine wpAnyH_done (by kernel_rfl) ?_ _
     have zEH : PH < w28.heap.size := (unhide bH_213).lt
     have zHH : hiH ≤ w28.heap.size := (unhide H_212).le
     have kbH := (unhide bH_213).S
     have kbW := (unhide bW_209).S
     go_wp2_with fail
     refine (eqMr nb2 vw2 vh2 aH aW cH cW nL L HNL (Nat.le_trans (unhide HN10) (by decide)) _ (unhide H_212).rowV (unhide W_208).rowV).mono ?_
     rintro e w29 ⟨rfl, hb29⟩
     clear kbH kbW
     have B_214 := hide ((unhide B_205).trans (hb29.mono (unhide B_205).size))
     clear B_205
     have A_215 := hide ((unhide A_206).below hb29)
     clear A_206
     have Av_216 := hide ((unhide Av_207).below hb29)
     clear Av_207
     have W_217 := hide ((unhide W_208).below hb29 (unhide W_208).le)
     clear W_208
     have bW_218 := hide ((unhide bW_209).below hb29)
     clear bW_209
     have bG_219 := hide ((unhide bG_210).below hb29)
     clear bG_210
     have G_220 := hide ((unhide G_211).below hb29 (unhide G_211).le)
     clear G_211
     have H_221 := hide ((unhide H_212).below hb29 (unhide H_212).le)
     clear H_212
     have bH_222 := hide ((unhide bH_213).below hb29)
     clear bH_213
     clear hb29
     have kbG := (unhide bG_219).S
     go_wp2_with fail
     refine (heldMr nb2 vw2 vh2 _ nL _ _ _ 1 q HQ (by decide) (by decide) (by have := unhide HN10; omega) _ (unhide G_220)).mono ?_
     rintro e w30 ⟨rfl, hb30⟩
     clear kbG
     have B_223 := hide ((unhide B_214).trans (hb30.mono (unhide B_214).size))
     clear B_214
     have A_224 := hide ((unhide A_215).below hb30)
     clear A_215
     have Av_225 := hide ((unhide Av_216).below hb30)
     clear Av_216
     have W_226 := hide ((unhide W_217).below hb30 (unhide W_217).le)
     clear W_217
     have bW_227 := hide ((unhide bW_218).below hb30)
     clear bW_218
     have bG_228 := hide ((unhide bG_219).below hb30)
     clear bG_219
     have G_229 := hide ((unhide G_220).below hb30 (unhide G_220).le)
     clear G_220
     have H_230 := hide ((unhide H_221).below hb30 (unhide H_221).le)
     clear H_221
     have bH_231 := hide ((unhide bH_222).below hb30)
     clear bH_222
     clear hb30
     go_wp2_with fail
     go_ret
     exact ⟨rfl, (unhide B_223)⟩
   ·
    obtain ⟨PW, hP⟩ : ∃ P, P = w5.heap.size := ⟨_, rfl⟩
    have zPW : w.heap.size + 1 < PW := by rw [hP]; exact (unhide Av_19).lt
    have B_22 := hide ((unhide B_17).alloc (unhide B_17).size (.cells #[.int .i64 0, .int .i64 0, .int .i64 0, .slice none 0 0] 30))
    clear B_17
    have A_23 := hide ((unhide A_18).alloc (.cells #[.int .i64 0, .int .i64 0, .int .i64 0, .slice none 0 0] 30))
    clear A_18
    have Av_24 := hide ((unhide Av_19).alloc (.cells #[.int .i64 0, .int .i64 0, .int .i64 0, .slice none 0 0] 30))
    clear Av_19
    have WT1_25 := hide ((unhide WT1_20).below (Go.Joins.below_alloc1 _ (.cells #[.int .i64 0, .int .i64 0, .int .i64 0, .slice none 0 0] 30)) (unhide WT1_20).le)
    clear WT1_20
    have WT3_26 := hide ((unhide WT3_21).below (Go.Joins.below_alloc1 _ (.cells #[.int .i64 0, .int .i64 0, .int .i64 0, .slice none 0 0] 30)) (unhide WT3_21).le)
    clear WT3_21
    have bW_27 := hide (BF.new w5 #[.int .i64 0, .int .i64 0, .int .i64 0, .slice none 0 0] 30)
    rw [← hP] at bW_27
    go_simp
    refine hK.out _ _ ?_ (fun hHeldWA => ?_)
    · exact ⟨(unhide A_23).S, (unhide Av_24).S⟩
    clear hK K
    try simp only [Act.put, qqA, qqB, qqC]
    rw [← hP]
    clear hP
    generalize w5.alloc (.cells #[.int .i64 0, .int .i64 0, .int .i64 0, .slice none 0 0] 30) = w6 at B_22 A_23 Av_24 WT1_25 WT3_26 bW_27 hHeldWA ⊢
    refine wpAnyH_ready (rs := [4]) (by kernel_rfl) (by simp) ?_
    refine AllReadyH.cons (o := oAvw3) rfl (fun K hK => ?_) AllReadyH.nil
    have HPLW : Hid (PW < w6.heap.size) := (unhide bW_27).lt
    go_simp
    refine (saccept nb vw vh _ _ n l HN (unhide HL) HSZ nbv frv fuv vwv vhv _ _ nv lv HNv (unhide HLv) HSZv nb2 vw2 vh2 L c HIS _ (unhide WT1_25).rowV (unhide WT3_26).rowV).mono ?_
    rintro e w7 ⟨vW, rfl, hoW, hb7⟩
    have zc7 := hb7.size
    have B_28 := hide ((unhide B_22).trans (hb7.mono (unhide B_22).size))
    clear B_22
    have A_29 := hide ((unhide A_23).below hb7)
    clear A_23
    have Av_30 := hide ((unhide Av_24).below hb7)
    clear Av_24
    have WT1_31 := hide ((unhide WT1_25).below hb7 (unhide WT1_25).le)
    clear WT1_25
    have WT3_32 := hide ((unhide WT3_26).below hb7 (unhide WT3_26).le)
    clear WT3_26
    have bW_33 := hide ((unhide bW_27).below hb7)
    clear bW_27
    clear hb7
    clear WT1_31
    clear WT3_32
    obtain ⟨aW, cW, rfl, -⟩ := own_rowV hoW
    rw [unhide HNL] at hoW
    rw [unhide HNL]
    obtain ⟨loW, hiW, eloW, ehiW⟩ : ∃ lo hi, lo = w6.heap.size ∧ hi = w7.heap.size := ⟨_, _, rfl, rfl⟩
    have W_34 := hide (held_of hoW)
    rw [← eloW, ← ehiW] at W_34
    have zPWr : PW < loW := by rw [eloW]; exact unhide HPLW
    clear hoW eloW ehiW
    go_wp2_with fail
    refine hK.out _ _ ?_ (fun hHeldW4 => ?_)
    · exact ⟨(unhide A_29).S, (unhide Av_30).S⟩
    clear hK K
    try simp only [Act.put, qqA, qqB, qqC]
    refine wtk (i := 5) (oi := oAvw4) (v := ?_) rfl (Or.inl ⟨by rfl, ?_⟩) (by assumption) ?_
    rotate_left 1
    · (intro w' hSw; (try dsimp only at hSw); go_simp; try with_reducible rfl)
    try simp only [Act.put, qqA, qqB, qqC]
    refine wtk (i := 6) (oi := oAvw5) (v := ?_) rfl (Or.inl ⟨by rfl, ?_⟩) (by assumption) ?_
    rotate_left 1
    · (intro w' hSw; (try dsimp only at hSw); go_simp; try with_reducible rfl)
    try simp only [Act.put, qqA, qqB, qqC]
    refine wtk (i := 7) (oi := oAvw6) (v := ?_) rfl (Or.inl ⟨by rfl, ?_⟩) (by assumption) ?_
    rotate_left 1
    · (intro w' hSw; (try dsimp only at hSw); go_simp; try with_reducible rfl)
    try simp only [Act.put, qqA, qqB, qqC]
    refine wpAnyH_ready (rs := [9]) (by kernel_rfl) (by simp) ?_
    refine AllReadyH.cons (o := oAvw7) rfl (fun K hK => ?_) AllReadyH.nil
    have kn := (unhide bW_33).S
    have knf := (unhide bW_33).F
    obtain ⟨w8, hw8, hF8, hg8⟩ := put4G w7 (unhide bW_33) (.int .i64 nb2) (.int .i64 vw2) (.int .i64 vh2) (.slice aW nL cW)
    have hne8 : ∀ q, q ≠ PW → (some PW : Option Nat) ≠ some q := fun q h e => h (Option.some.inj e).symm
    have B_35 := hide ((unhide B_28).grown hg8 (unhide B_28).size (fun k hk => by have e : PW = k := Option.some.inj hk; omega))
    clear B_28
    have A_36 := hide ((unhide A_29).grown hg8 (hne8 _ (by omega)))
    clear A_29
    have Av_37 := hide ((unhide Av_30).grown hg8 (hne8 _ (by omega)))
    clear Av_30
    have W_38 := hide ((unhide W_34).grown hg8 (fun k hk => by have e : PW = k := Option.some.inj hk; omega))
    clear W_34
    have bW_39 := hide (hF8)
    clear bW_33
    go_simp
    rw [← hw8]
    refine hK.out _ _ ?_ (fun hHeldWS => ?_)
    · exact ⟨(unhide A_36).S, (unhide Av_37).S⟩
    clear hK K
    try simp only [Act.put, qqA, qqB, qqC]
    clear kn knf hw8 hF8 hg8 hne8
    refine wtk (i := 10) (oi := oAvw8) (v := ?_) rfl (Or.inl ⟨by rfl, ?_⟩) (by assumption) ?_
    rotate_left 1
    · (intro w' hSw; (try dsimp only at hSw); go_simp; try with_reducible rfl)
    try simp only [Act.put, qqA, qqB, qqC]
    refine wpAnyH_done (by kernel_rfl) ?_ _
    have zEW : PW < w8.heap.size := (unhide bW_39).lt
    have zHW : hiW ≤ w8.heap.size := (unhide W_38).le
    have kA := (unhide A_36).S
    have kAv := (unhide Av_37).S
    go_wp2_with fail
    refine (toMr nb vw vh a cap n l HN (unhide HL) _ ((unhide HR).below (unhide B_35))).mono ?_
    rintro e w9 ⟨g9, rfl, o9, hb9⟩
    clear kA kAv
    have z9 : w8.heap.size ≤ w9.heap.size := by have := hb9.size; (try simp at this); omega
    have B_40 := hide ((unhide B_35).trans (hb9.mono (unhide B_35).size))
    clear B_35
    have A_41 := hide ((unhide A_36).below hb9)
    clear A_36
    have Av_42 := hide ((unhide Av_37).below hb9)
    clear Av_37
    have W_43 := hide ((unhide W_38).below hb9 (unhide W_38).le)
    clear W_38
    have bW_44 := hide ((unhide bW_39).below hb9)
    clear bW_39
    clear hb9
    have X_45 := hide (held_of o9)
    clear o9
    try simp only [World.size_alloc] at X_45
    have B_46 := hide ((unhide B_40).alloc (unhide B_40).size (.cells #[.int .i64 nb, .int .i64 vw, .int .i64 vh, .slice (some ⟨g9, 0, none⟩) n n] 30))
    clear B_40
    have A_47 := hide ((unhide A_41).alloc (.cells #[.int .i64 nb, .int .i64 vw, .int .i64 vh, .slice (some ⟨g9, 0, none⟩) n n] 30))
    clear A_41
    have Av_48 := hide ((unhide Av_42).alloc (.cells #[.int .i64 nb, .int .i64 vw, .int .i64 vh, .slice (some ⟨g9, 0, none⟩) n n] 30))
    clear Av_42
    have W_49 := hide ((unhide W_43).below (Go.Joins.below_alloc1 _ (.cells #[.int .i64 nb, .int .i64 vw, .int .i64 vh, .slice (some ⟨g9, 0, none⟩) n n] 30)) (unhide W_43).le)
    clear W_43
    have bW_50 := hide ((unhide bW_44).alloc (.cells #[.int .i64 nb, .int .i64 vw, .int .i64 vh, .slice (some ⟨g9, 0, none⟩) n n] 30))
    clear bW_44
    have X_51 := hide ((unhide X_45).below (Go.Joins.below_alloc1 _ (.cells #[.int .i64 nb, .int .i64 vw, .int .i64 vh, .slice (some ⟨g9, 0, none⟩) n n] 30)) (unhide X_45).le)
    clear X_45
    have bX_52 := hide (BF.new w9 #[.int .i64 nb, .int .i64 vw, .int .i64 vh, .slice (some ⟨g9, 0, none⟩) n n] 30)
    have kA := (unhide A_47).S
    have kAv := (unhide Av_48).S
    go_wp2_with fail
    refine (toVw nbv frv vwv vhv fuv av capv nv lv HNv (unhide HLv) _ ((unhide HRv).below (unhide B_46))).mono ?_
    rintro e w10 ⟨g10, rfl, o10, hb10⟩
    clear kA kAv
    have z10 : w9.heap.size + 1 ≤ w10.heap.size := by have := hb10.size; (try simp at this); omega
    have B_53 := hide ((unhide B_46).trans (hb10.mono (unhide B_46).size))
    clear B_46
    have A_54 := hide ((unhide A_47).below hb10)
    clear A_47
    have Av_55 := hide ((unhide Av_48).below hb10)
    clear Av_48
    have W_56 := hide ((unhide W_49).below hb10 (unhide W_49).le)
    clear W_49
    have bW_57 := hide ((unhide bW_50).below hb10)
    clear bW_50
    have X_58 := hide ((unhide X_51).below hb10 (unhide X_51).le)
    clear X_51
    have bX_59 := hide ((unhide bX_52).below hb10)
    clear bX_52
    clear hb10
    have Y_60 := hide (heldZ_of o10)
    clear o10
    try simp only [World.size_alloc] at Y_60
    have B_61 := hide ((unhide B_53).alloc (unhide B_53).size (.cells #[.int .i64 nbv, .int .i64 frv, .bool fuv, .int .i64 vwv, .int .i64 vhv, .slice (some ⟨g10, 0, none⟩) nv nv] 36))
    clear B_53
    have A_62 := hide ((unhide A_54).alloc (.cells #[.int .i64 nbv, .int .i64 frv, .bool fuv, .int .i64 vwv, .int .i64 vhv, .slice (some ⟨g10, 0, none⟩) nv nv] 36))
    clear A_54
    have Av_63 := hide ((unhide Av_55).alloc (.cells #[.int .i64 nbv, .int .i64 frv, .bool fuv, .int .i64 vwv, .int .i64 vhv, .slice (some ⟨g10, 0, none⟩) nv nv] 36))
    clear Av_55
    have W_64 := hide ((unhide W_56).below (Go.Joins.below_alloc1 _ (.cells #[.int .i64 nbv, .int .i64 frv, .bool fuv, .int .i64 vwv, .int .i64 vhv, .slice (some ⟨g10, 0, none⟩) nv nv] 36)) (unhide W_56).le)
    clear W_56
    have bW_65 := hide ((unhide bW_57).alloc (.cells #[.int .i64 nbv, .int .i64 frv, .bool fuv, .int .i64 vwv, .int .i64 vhv, .slice (some ⟨g10, 0, none⟩) nv nv] 36))
    clear bW_57
    have X_66 := hide ((unhide X_58).below (Go.Joins.below_alloc1 _ (.cells #[.int .i64 nbv, .int .i64 frv, .bool fuv, .int .i64 vwv, .int .i64 vhv, .slice (some ⟨g10, 0, none⟩) nv nv] 36)) (unhide X_58).le)
    clear X_58
    have bX_67 := hide ((unhide bX_59).alloc (.cells #[.int .i64 nbv, .int .i64 frv, .bool fuv, .int .i64 vwv, .int .i64 vhv, .slice (some ⟨g10, 0, none⟩) nv nv] 36))
    clear bX_59
    have Y_68 := hide ((unhide Y_60).below (Go.Joins.below_alloc1 _ (.cells #[.int .i64 nbv, .int .i64 frv, .bool fuv, .int .i64 vwv, .int .i64 vhv, .slice (some ⟨g10, 0, none⟩) nv nv] 36)) (unhide Y_60).le)
    clear Y_60
    have bY_69 := hide (BF.new w10 #[.int .i64 nbv, .int .i64 frv, .bool fuv, .int .i64 vwv, .int .i64 vhv, .slice (some ⟨g10, 0, none⟩) nv nv] 36)
    have kbX := (unhide bX_67).S
    have kbY := (unhide bY_69).S
    go_wp2_with fail
    refine (iaccept nb vw vh _ _ n l HN (unhide HL) HSZ nbv frv fuv vwv vhv _ _ nv lv HNv (unhide HLv) HSZv nb2 vw2 vh2 L c HIS _ (unhide X_66).rowV (unhide Y_68).rowV).mono ?_
    rintro e w11 ⟨vG, rfl, hoG, hb11⟩
    clear kbX kbY
    have z11 : w10.heap.size + 1 ≤ w11.heap.size := by have := hb11.size; (try simp at this); omega
    have B_70 := hide ((unhide B_61).trans (hb11.mono (unhide B_61).size))
    clear B_61
    have A_71 := hide ((unhide A_62).below hb11)
    clear A_62
    have Av_72 := hide ((unhide Av_63).below hb11)
    clear Av_63
    have W_73 := hide ((unhide W_64).below hb11 (unhide W_64).le)
    clear W_64
    have bW_74 := hide ((unhide bW_65).below hb11)
    clear bW_65
    have X_75 := hide ((unhide X_66).below hb11 (unhide X_66).le)
    clear X_66
    have bX_76 := hide ((unhide bX_67).below hb11)
    clear bX_67
    have Y_77 := hide ((unhide Y_68).below hb11 (unhide Y_68).le)
    clear Y_68
    have bY_78 := hide ((unhide bY_69).below hb11)
    clear bY_69
    clear hb11
    obtain ⟨aG, cG, rfl, -⟩ := own_rowV hoG
    rw [unhide HNL] at hoG
    have G_79 := hide (held_of hoG)
    clear hoG
    try simp only [World.size_alloc] at G_79
    rw [unhide HNL]
    have B_80 := hide ((unhide B_70).alloc (unhide B_70).size (.cells #[.int .i64 nb2, .int .i64 vw2, .int .i64 vh2, .slice aG nL cG] 30))
    clear B_70
    have A_81 := hide ((unhide A_71).alloc (.cells #[.int .i64 nb2, .int .i64 vw2, .int .i64 vh2, .slice aG nL cG] 30))
    clear A_71
    have Av_82 := hide ((unhide Av_72).alloc (.cells #[.int .i64 nb2, .int .i64 vw2, .int .i64 vh2, .slice aG nL cG] 30))
    clear Av_72
    have W_83 := hide ((unhide W_73).below (Go.Joins.below_alloc1 _ (.cells #[.int .i64 nb2, .int .i64 vw2, .int .i64 vh2, .slice aG nL cG] 30)) (unhide W_73).le)
    clear W_73
    have bW_84 := hide ((unhide bW_74).alloc (.cells #[.int .i64 nb2, .int .i64 vw2, .int .i64 vh2, .slice aG nL cG] 30))
    clear bW_74
    have X_85 := hide ((unhide X_75).below (Go.Joins.below_alloc1 _ (.cells #[.int .i64 nb2, .int .i64 vw2, .int .i64 vh2, .slice aG nL cG] 30)) (unhide X_75).le)
    clear X_75
    have bX_86 := hide ((unhide bX_76).alloc (.cells #[.int .i64 nb2, .int .i64 vw2, .int .i64 vh2, .slice aG nL cG] 30))
    clear bX_76
    have Y_87 := hide ((unhide Y_77).below (Go.Joins.below_alloc1 _ (.cells #[.int .i64 nb2, .int .i64 vw2, .int .i64 vh2, .slice aG nL cG] 30)) (unhide Y_77).le)
    clear Y_77
    have bY_88 := hide ((unhide bY_78).alloc (.cells #[.int .i64 nb2, .int .i64 vw2, .int .i64 vh2, .slice aG nL cG] 30))
    clear bY_78
    have G_89 := hide ((unhide G_79).below (Go.Joins.below_alloc1 _ (.cells #[.int .i64 nb2, .int .i64 vw2, .int .i64 vh2, .slice aG nL cG] 30)) (unhide G_79).le)
    clear G_79
    have bG_90 := hide (BF.new w11 #[.int .i64 nb2, .int .i64 vw2, .int .i64 vh2, .slice aG nL cG] 30)
    have kbG := (unhide bG_90).S
    have kbW := (unhide bW_84).S
    go_wp2_with fail
    refine (eqMr nb2 vw2 vh2 aG aW cG cW nL L HNL (Nat.le_trans (unhide HN10) (by decide)) _ (unhide G_89).rowV (unhide W_83).rowV).mono ?_
    rintro e w12 ⟨rfl, hb12⟩
    clear kbG kbW
    have B_91 := hide ((unhide B_80).trans (hb12.mono (unhide B_80).size))
    clear B_80
    have A_92 := hide ((unhide A_81).below hb12)
    clear A_81
    have Av_93 := hide ((unhide Av_82).below hb12)
    clear Av_82
    have W_94 := hide ((unhide W_83).below hb12 (unhide W_83).le)
    clear W_83
    have bW_95 := hide ((unhide bW_84).below hb12)
    clear bW_84
    have X_96 := hide ((unhide X_85).below hb12 (unhide X_85).le)
    clear X_85
    have bX_97 := hide ((unhide bX_86).below hb12)
    clear bX_86
    have Y_98 := hide ((unhide Y_87).below hb12 (unhide Y_87).le)
    clear Y_87
    have bY_99 := hide ((unhide bY_88).below hb12)
    clear bY_88
    have G_100 := hide ((unhide G_89).below hb12 (unhide G_89).le)
    clear G_89
    have bG_101 := hide ((unhide bG_90).below hb12)
    clear bG_90
    clear hb12
    have K6 := And.intro (unhide A_92).S (unhide bX_97).S
    have HU6 := hide (unhide X_96).rowV
    have LA : w.heap.size < _ := (unhide A_92).lt
    have LX : w9.heap.size < _ := (unhide bX_97).lt
    go_wp2_with fail
    go_region_held3 (fun w' => (∀ o, w'.cell? ⟨w.heap.size, o, none⟩ = (#[.int .i64 nb, .int .i64 vw, .int .i64 vh, .slice a n cap] : Array Value)[o]?) ∧ (∀ o, w'.cell? ⟨w9.heap.size, o, none⟩ = (#[.int .i64 nb, .int .i64 vw, .int .i64 vh, .slice (some ⟨g9, 0, none⟩) n n] : Array Value)[o]?)) (first | exact K6 | exact K7 | exact K8) (first | (go_at_call 7; refine (toMr nb vw vh a cap n l HN (unhide HL) _ ((unhide HR).below (unhide B_91).drew)).mono ?_; rintro e w13 ⟨g13, rfl, o13, hb13⟩; have K7 := And.intro (fun o => (hb13.cell (p := ⟨w.heap.size, o, none⟩) LA).trans (K6.1 o)) (fun o => (hb13.cell (p := ⟨w9.heap.size, o, none⟩) LX).trans (K6.2 o)); have HO7 := hide (rowZ_at o13); have HU7 := hide ((unhide HU6).below (below_undrew hb13)); have HT7 := hide (below_undrew hb13); have LA7 := Nat.lt_of_lt_of_le LA (unhide HT7).size; have LX7 := Nat.lt_of_lt_of_le LX (unhide HT7).size; clear o13 hb13) | (go_at_call 10; refine (eqMr nb vw vh _ _ _ _ n l HN (unhide HL) _ (unhide HU7) (unhide HO7)).mono ?_; rintro e w14 ⟨rfl, hb14⟩; have K8 := And.intro (fun o => (hb14.cell (p := ⟨w.heap.size, o, none⟩) LA7).trans (K7.1 o)) (fun o => (hb14.cell (p := ⟨w9.heap.size, o, none⟩) LX7).trans (K7.2 o)); have HT8 := hide ((unhide HT7).trans (hb14.mono (unhide HT7).size)); clear hb14))
    clear K6 K7 K8 HO7 HU6 HU7 HT7 LA LX LA7 LX7
    have B_102 := hide ((unhide B_91).trans ((unhide HT8).mono (unhide B_91).size))
    clear B_91
    have A_103 := hide ((unhide A_92).below (unhide HT8))
    clear A_92
    have Av_104 := hide ((unhide Av_93).below (unhide HT8))
    clear Av_93
    have W_105 := hide ((unhide W_94).below (unhide HT8) (unhide W_94).le)
    clear W_94
    have bW_106 := hide ((unhide bW_95).below (unhide HT8))
    clear bW_95
    have X_107 := hide ((unhide X_96).below (unhide HT8) (unhide X_96).le)
    clear X_96
    have bX_108 := hide ((unhide bX_97).below (unhide HT8))
    clear bX_97
    have Y_109 := hide ((unhide Y_98).below (unhide HT8) (unhide Y_98).le)
    clear Y_98
    have bY_110 := hide ((unhide bY_99).below (unhide HT8))
    clear bY_99
    have G_111 := hide ((unhide G_100).below (unhide HT8) (unhide G_100).le)
    clear G_100
    have bG_112 := hide ((unhide bG_101).below (unhide HT8))
    clear bG_101
    clear HT8
    have K6 := And.intro (unhide Av_104).S (unhide bY_110).S
    have HU6 := hide (unhide Y_109).rowV
    have LA : (w.heap.size + 1) < _ := (unhide Av_104).lt
    have LX : w10.heap.size < _ := (unhide bY_110).lt
    go_wp2_with fail
    go_region_held3 (fun w' => (∀ o, w'.cell? ⟨(w.heap.size + 1), o, none⟩ = (#[.int .i64 nbv, .int .i64 frv, .bool fuv, .int .i64 vwv, .int .i64 vhv, .slice av nv capv] : Array Value)[o]?) ∧ (∀ o, w'.cell? ⟨w10.heap.size, o, none⟩ = (#[.int .i64 nbv, .int .i64 frv, .bool fuv, .int .i64 vwv, .int .i64 vhv, .slice (some ⟨g10, 0, none⟩) nv nv] : Array Value)[o]?)) (first | exact K6 | exact K7 | exact K8) (first | (go_at_call 8; refine (toVw nbv frv vwv vhv fuv av capv nv lv HNv (unhide HLv) _ ((unhide HRv).below (unhide B_102).drew)).mono ?_; rintro e w15 ⟨g15, rfl, o15, hb15⟩; have K7 := And.intro (fun o => (hb15.cell (p := ⟨(w.heap.size + 1), o, none⟩) LA).trans (K6.1 o)) (fun o => (hb15.cell (p := ⟨w10.heap.size, o, none⟩) LX).trans (K6.2 o)); have HO7 := hide (rowZ_at o15); have HU7 := hide ((unhide HU6).below (below_undrew hb15)); have HT7 := hide (below_undrew hb15); have LA7 := Nat.lt_of_lt_of_le LA (unhide HT7).size; have LX7 := Nat.lt_of_lt_of_le LX (unhide HT7).size; clear o15 hb15) | (go_at_call 11; refine (eqVw nbv frv vwv vhv fuv _ _ _ _ nv lv HNv (unhide HLv) _ (unhide HU7) (unhide HO7)).mono ?_; rintro e w16 ⟨rfl, hb16⟩; have K8 := And.intro (fun o => (hb16.cell (p := ⟨(w.heap.size + 1), o, none⟩) LA7).trans (K7.1 o)) (fun o => (hb16.cell (p := ⟨w10.heap.size, o, none⟩) LX7).trans (K7.2 o)); have HT8 := hide ((unhide HT7).trans (hb16.mono (unhide HT7).size)); clear hb16))
    clear K6 K7 K8 HO7 HU6 HU7 HT7 LA LX LA7 LX7
    have B_113 := hide ((unhide B_102).trans ((unhide HT8).mono (unhide B_102).size))
    clear B_102
    have A_114 := hide ((unhide A_103).below (unhide HT8))
    clear A_103
    have Av_115 := hide ((unhide Av_104).below (unhide HT8))
    clear Av_104
    have W_116 := hide ((unhide W_105).below (unhide HT8) (unhide W_105).le)
    clear W_105
    have bW_117 := hide ((unhide bW_106).below (unhide HT8))
    clear bW_106
    have X_118 := hide ((unhide X_107).below (unhide HT8) (unhide X_107).le)
    clear X_107
    have bX_119 := hide ((unhide bX_108).below (unhide HT8))
    clear bX_108
    have Y_120 := hide ((unhide Y_109).below (unhide HT8) (unhide Y_109).le)
    clear Y_109
    have bY_121 := hide ((unhide bY_110).below (unhide HT8))
    clear bY_110
    have G_122 := hide ((unhide G_111).below (unhide HT8) (unhide G_111).le)
    clear G_111
    have bG_123 := hide ((unhide bG_112).below (unhide HT8))
    clear bG_112
    clear HT8
    have kbX := (unhide bX_119).S
    go_wp2_with fail
    refine (markMr nb vw vh _ n _ _ _ 1 (kx : Int) HKX _ (by decide) (by decide) (unhide HKB).2.2 _ (unhide X_118)).mono ?_
    rintro e w17 ⟨rfl, h17, hg17⟩
    clear kbX
    have B_124 := hide (Below.marked (unhide B_113) (unhide B_113).size (unhide X_118) (by omega) hg17)
    clear B_113
    have A_125 := hide ((unhide A_114).grown hg17 (fun hk => by have := (unhide X_118).blk _ hk; omega))
    clear A_114
    have Av_126 := hide ((unhide Av_115).grown hg17 (fun hk => by have := (unhide X_118).blk _ hk; omega))
    clear Av_115
    have W_127 := hide ((unhide W_116).grown hg17 (fun k hk => by have := (unhide X_118).blk k hk; omega))
    clear W_116
    have bW_128 := hide ((unhide bW_117).grown hg17 (fun hk => by have := (unhide X_118).blk _ hk; omega))
    clear bW_117
    have bX_129 := hide ((unhide bX_119).grown hg17 (fun hk => by have := (unhide X_118).blk _ hk; omega))
    clear bX_119
    have Y_130 := hide ((unhide Y_120).grown hg17 (fun k hk => by have := (unhide X_118).blk k hk; omega))
    clear Y_120
    have bY_131 := hide ((unhide bY_121).grown hg17 (fun hk => by have := (unhide X_118).blk _ hk; omega))
    clear bY_121
    have G_132 := hide ((unhide G_122).grown hg17 (fun k hk => by have := (unhide X_118).blk k hk; omega))
    clear G_122
    have bG_133 := hide ((unhide bG_123).grown hg17 (fun hk => by have := (unhide X_118).blk _ hk; omega))
    clear bG_123
    have X_m17 := hide h17
    clear h17 hg17 X_118
    clear X_m17
    clear bX_129
    have kbY := (unhide bY_131).S
    go_wp2_with fail
    refine (markVw nbv frv vwv vhv fuv _ nv _ _ _ kx (ky : Int) HKY _ (unhide HKB).1 (unhide HKB).2.1 _ (unhide Y_130)).mono ?_
    rintro e w18 ⟨rfl, h18, hg18⟩
    clear kbY
    have B_134 := hide (Below.markedZ (unhide B_124) (unhide B_124).size (unhide Y_130) (by omega) hg18)
    clear B_124
    have A_135 := hide ((unhide A_125).grown hg18 (fun hk => by have := (unhide Y_130).blk _ hk; omega))
    clear A_125
    have Av_136 := hide ((unhide Av_126).grown hg18 (fun hk => by have := (unhide Y_130).blk _ hk; omega))
    clear Av_126
    have W_137 := hide ((unhide W_127).grown hg18 (fun k hk => by have := (unhide Y_130).blk k hk; omega))
    clear W_127
    have bW_138 := hide ((unhide bW_128).grown hg18 (fun hk => by have := (unhide Y_130).blk _ hk; omega))
    clear bW_128
    have bY_139 := hide ((unhide bY_131).grown hg18 (fun hk => by have := (unhide Y_130).blk _ hk; omega))
    clear bY_131
    have G_140 := hide ((unhide G_132).grown hg18 (fun k hk => by have := (unhide Y_130).blk k hk; omega))
    clear G_132
    have bG_141 := hide ((unhide bG_133).grown hg18 (fun hk => by have := (unhide Y_130).blk _ hk; omega))
    clear bG_133
    have Y_m18 := hide h18
    clear h18 hg18 Y_130
    clear Y_m18
    clear bY_139
    have kbG := (unhide bG_141).S
    have kbW := (unhide bW_138).S
    go_wp2_with fail
    refine (eqMr nb2 vw2 vh2 aG aW cG cW nL L HNL (Nat.le_trans (unhide HN10) (by decide)) _ (unhide G_140).rowV (unhide W_137).rowV).mono ?_
    rintro e w19 ⟨rfl, hb19⟩
    clear kbG kbW
    have B_142 := hide ((unhide B_134).trans (hb19.mono (unhide B_134).size))
    clear B_134
    have A_143 := hide ((unhide A_135).below hb19)
    clear A_135
    have Av_144 := hide ((unhide Av_136).below hb19)
    clear Av_136
    have W_145 := hide ((unhide W_137).below hb19 (unhide W_137).le)
    clear W_137
    have bW_146 := hide ((unhide bW_138).below hb19)
    clear bW_138
    have G_147 := hide ((unhide G_140).below hb19 (unhide G_140).le)
    clear G_140
    have bG_148 := hide ((unhide bG_141).below hb19)
    clear bG_141
    clear hb19
    have kbG := (unhide bG_148).S
    go_wp2_with fail
    refine (markMr nb2 vw2 vh2 _ nL _ _ _ 1 q HQ _ (by decide) (by decide) (by have := unhide HN10; omega) _ (unhide G_147)).mono ?_
    rintro e w20 ⟨rfl, h20, hg20⟩
    clear kbG
    have B_149 := hide (Below.marked (unhide B_142) (unhide B_142).size (unhide G_147) (by omega) hg20)
    clear B_142
    have A_150 := hide ((unhide A_143).grown hg20 (fun hk => by have := (unhide G_147).blk _ hk; omega))
    clear A_143
    have Av_151 := hide ((unhide Av_144).grown hg20 (fun hk => by have := (unhide G_147).blk _ hk; omega))
    clear Av_144
    have W_152 := hide ((unhide W_145).grown hg20 (fun k hk => by have := (unhide G_147).blk k hk; omega))
    clear W_145
    have bW_153 := hide ((unhide bW_146).grown hg20 (fun hk => by have := (unhide G_147).blk _ hk; omega))
    clear bW_146
    have bG_154 := hide ((unhide bG_148).grown hg20 (fun hk => by have := (unhide G_147).blk _ hk; omega))
    clear bG_148
    have G_m20 := hide h20
    clear h20 hg20 G_147
    have kbG := (unhide bG_154).S
    go_wp2_with fail
    refine (heldMr nb2 vw2 vh2 _ nL _ _ _ 1 q HQ (by decide) (by decide) (by have := unhide HN10; omega) _ (unhide G_m20)).mono ?_
    rintro e w21 ⟨rfl, hb21⟩
    clear kbG
    have B_155 := hide ((unhide B_149).trans (hb21.mono (unhide B_149).size))
    clear B_149
    have A_156 := hide ((unhide A_150).below hb21)
    clear A_150
    have Av_157 := hide ((unhide Av_151).below hb21)
    clear Av_151
    have W_158 := hide ((unhide W_152).below hb21 (unhide W_152).le)
    clear W_152
    have bW_159 := hide ((unhide bW_153).below hb21)
    clear bW_153
    have bG_160 := hide ((unhide bG_154).below hb21)
    clear bG_154
    have G_161 := hide ((unhide G_m20).below hb21 (unhide G_m20).le)
    clear G_m20
    clear hb21
    go_wp2_with fail
    have zG22 : w11.heap.size < w21.heap.size := (unhide bG_160).lt
    have zW22 : PW < w21.heap.size := (unhide bW_159).lt
    refine wp_region_held_drew (S := (fun w' => (∀ o, w'.cell? ⟨w.heap.size, o, none⟩ = (#[.int .i64 nb, .int .i64 vw, .int .i64 vh, .slice a n cap] : Array Value)[o]?) ∧ (∀ o, w'.cell? ⟨(w.heap.size + 1), o, none⟩ = (#[.int .i64 nbv, .int .i64 frv, .bool fuv, .int .i64 vwv, .int .i64 vhv, .slice av nv capv] : Array Value)[o]?))) (by kernel_rfl) ⟨(unhide A_156).S, (unhide Av_157).S⟩ (fun hHeld => ?_)
    have B_162 := hide ((unhide B_155).drew)
    clear B_155
    have A_163 := hide ((unhide A_156).drew)
    clear A_156
    have Av_164 := hide ((unhide Av_157).drew)
    clear Av_157
    have W_165 := hide ((unhide W_158).below (Below.refl _ _).drew (unhide W_158).le)
    clear W_158
    have bW_166 := hide ((unhide bW_159).drew)
    clear bW_159
    have bG_167 := hide ((unhide bG_160).drew)
    clear bG_160
    have G_168 := hide ((unhide G_161).below (Below.refl _ _).drew (unhide G_161).le)
    clear G_161
    generalize w21.drew = w23 at B_162 A_163 Av_164 W_165 bW_166 bG_167 G_168 hHeld ⊢
    refine wtk (i := 0) (oi := oAvw9) (v := ?_) rfl (Or.inl ⟨by rfl, ?_⟩) (by assumption) ?_
    rotate_left 1
    · (intro w' hSw; (try dsimp only at hSw); go_simp; try with_reducible rfl)
    try simp only [Act.put, qqA, qqB, qqC]
    refine wtk (i := 2) (oi := oAvw10) (v := ?_) rfl (Or.inl ⟨by rfl, ?_⟩) (by assumption) ?_
    rotate_left 1
    · (intro w' hSw; (try dsimp only at hSw); go_simp; try with_reducible rfl)
    try simp only [Act.put, qqA, qqB, qqC]
    refine wpAnyH_ready (rs := [1, 8]) (by kernel_rfl) (by simp) ?_
    refine AllReadyH.cons (o := oAvw11) rfl (fun K hK => ?_) (AllReadyH.cons (o := oAvw12) rfl (fun K hK => ?_) AllReadyH.nil)
    ·
     go_simp
     refine (toMr nb vw vh a cap n l HN (unhide HL) _ ((unhide HR).below (unhide B_162))).mono ?_
     rintro e w24 ⟨g24, rfl, o24, hb24⟩
     have zc24 := hb24.size
     have B_169 := hide ((unhide B_162).trans (hb24.mono (unhide B_162).size))
     clear B_162
     have A_170 := hide ((unhide A_163).below hb24)
     clear A_163
     have Av_171 := hide ((unhide Av_164).below hb24)
     clear Av_164
     have W_172 := hide ((unhide W_165).below hb24 (unhide W_165).le)
     clear W_165
     have bW_173 := hide ((unhide bW_166).below hb24)
     clear bW_166
     have bG_174 := hide ((unhide bG_167).below hb24)
     clear bG_167
     have G_175 := hide ((unhide G_168).below hb24 (unhide G_168).le)
     clear G_168
     clear hb24
     have HT1_176 := hide (held_of o24)
     clear o24
     go_wp2_with fail
     refine hK.out _ _ ?_ (fun hHeldH1 => ?_)
     · exact ⟨(unhide A_170).S, (unhide Av_171).S⟩
     clear hK K
     try simp only [Act.put, qqA, qqB, qqC]
     refine wpAnyH_ready (rs := [3, 8]) (by kernel_rfl) (by simp) ?_
     refine AllReadyH.cons (o := oAvw13) rfl (fun K hK => ?_) (AllReadyH.cons (o := oAvw12) rfl (fun K hK => ?_) AllReadyH.nil)
     ·
      go_simp
      refine (toVw nbv frv vwv vhv fuv av capv nv lv HNv (unhide HLv) _ ((unhide HRv).below (unhide B_169))).mono ?_
      rintro e w25 ⟨g25, rfl, o25, hb25⟩
      have zc25 := hb25.size
      have B_177 := hide ((unhide B_169).trans (hb25.mono (unhide B_169).size))
      clear B_169
      have A_178 := hide ((unhide A_170).below hb25)
      clear A_170
      have Av_179 := hide ((unhide Av_171).below hb25)
      clear Av_171
      have W_180 := hide ((unhide W_172).below hb25 (unhide W_172).le)
      clear W_172
      have bW_181 := hide ((unhide bW_173).below hb25)
      clear bW_173
      have bG_182 := hide ((unhide bG_174).below hb25)
      clear bG_174
      have G_183 := hide ((unhide G_175).below hb25 (unhide G_175).le)
      clear G_175
      have HT1_184 := hide ((unhide HT1_176).below hb25 (unhide HT1_176).le)
      clear HT1_176
      clear hb25
      have HT3_185 := hide (heldZ_of o25)
      clear o25
      go_wp2_with fail
      refine hK.out _ _ ?_ (fun hHeldH3 => ?_)
      · exact ⟨(unhide A_178).S, (unhide Av_179).S⟩
      clear hK K
      try simp only [Act.put, qqA, qqB, qqC]
      refine wpAnyH_ready (rs := [4, 8]) (by kernel_rfl) (by simp) ?_
      refine AllReadyH.cons (o := oAvw14) rfl (fun K hK => ?_) (AllReadyH.cons (o := oAvw12) rfl (fun K hK => ?_) AllReadyH.nil)
      ·
       go_simp
       refine (iaccept nb vw vh _ _ n l HN (unhide HL) HSZ nbv frv fuv vwv vhv _ _ nv lv HNv (unhide HLv) HSZv nb2 vw2 vh2 L c HIS _ (unhide HT1_184).rowV (unhide HT3_185).rowV).mono ?_
       rintro e w26 ⟨vH, rfl, hoH, hb26⟩
       have zc26 := hb26.size
       have B_186 := hide ((unhide B_177).trans (hb26.mono (unhide B_177).size))
       clear B_177
       have A_187 := hide ((unhide A_178).below hb26)
       clear A_178
       have Av_188 := hide ((unhide Av_179).below hb26)
       clear Av_179
       have W_189 := hide ((unhide W_180).below hb26 (unhide W_180).le)
       clear W_180
       have bW_190 := hide ((unhide bW_181).below hb26)
       clear bW_181
       have bG_191 := hide ((unhide bG_182).below hb26)
       clear bG_182
       have G_192 := hide ((unhide G_183).below hb26 (unhide G_183).le)
       clear G_183
       have HT1_193 := hide ((unhide HT1_184).below hb26 (unhide HT1_184).le)
       clear HT1_184
       have HT3_194 := hide ((unhide HT3_185).below hb26 (unhide HT3_185).le)
       clear HT3_185
       clear hb26
       clear HT1_193
       clear HT3_194
       obtain ⟨aH, cH, rfl, -⟩ := own_rowV hoH
       rw [unhide HNL] at hoH
       rw [unhide HNL]
       obtain ⟨loH, hiH, eloH, ehiH⟩ : ∃ lo hi, lo = w25.heap.size ∧ hi = w26.heap.size := ⟨_, _, rfl, rfl⟩
       have H_195 := hide (held_of hoH)
       rw [← eloH, ← ehiH] at H_195
       clear hoH eloH ehiH
       go_wp2_with fail
       refine hK.out _ _ ?_ (fun hHeldH4 => ?_)
       · exact ⟨(unhide A_187).S, (unhide Av_188).S⟩
       clear hK K
       try simp only [Act.put, qqA, qqB, qqC]
       refine wtk (i := 5) (oi := oAvw15) (v := ?_) rfl (Or.inl ⟨by rfl, ?_⟩) (by assumption) ?_
       rotate_left 1
       · (intro w' hSw; (try dsimp only at hSw); go_simp; try with_reducible rfl)
       try simp only [Act.put, qqA, qqB, qqC]
       refine wtk (i := 6) (oi := oAvw16) (v := ?_) rfl (Or.inl ⟨by rfl, ?_⟩) (by assumption) ?_
       rotate_left 1
       · (intro w' hSw; (try dsimp only at hSw); go_simp; try with_reducible rfl)
       try simp only [Act.put, qqA, qqB, qqC]
       refine wtk (i := 7) (oi := oAvw17) (v := ?_) rfl (Or.inl ⟨by rfl, ?_⟩) (by assumption) ?_
       rotate_left 1
       · (intro w' hSw; (try dsimp only at hSw); go_simp; try with_reducible rfl)
       try simp only [Act.put, qqA, qqB, qqC]
       refine wpAnyH_ready (rs := [8]) (by kernel_rfl) (by simp) ?_
       refine AllReadyH.cons (o := oAvw12) rfl (fun K hK => ?_) AllReadyH.nil
       obtain ⟨PH, hP⟩ : ∃ P, P = w26.heap.size := ⟨_, rfl⟩
       have zPH : w.heap.size + 1 < PH := by rw [hP]; exact (unhide Av_188).lt
       have zPHG : w11.heap.size ≤ PH := by rw [hP]; exact (unhide G_192).le
       have zPHH : hiH ≤ PH := by rw [hP]; exact (unhide H_195).le
       have zPHbW : PW < PH := by rw [hP]; exact (unhide bW_190).lt
       have zPHbG : w11.heap.size < PH := by rw [hP]; exact (unhide bG_191).lt
       have B_196 := hide ((unhide B_186).alloc (unhide B_186).size (.cells #[.int .i64 0, .int .i64 0, .int .i64 0, .slice none 0 0] 30))
       clear B_186
       have A_197 := hide ((unhide A_187).alloc (.cells #[.int .i64 0, .int .i64 0, .int .i64 0, .slice none 0 0] 30))
       clear A_187
       have Av_198 := hide ((unhide Av_188).alloc (.cells #[.int .i64 0, .int .i64 0, .int .i64 0, .slice none 0 0] 30))
       clear Av_188
       have W_199 := hide ((unhide W_189).below (Go.Joins.below_alloc1 _ (.cells #[.int .i64 0, .int .i64 0, .int .i64 0, .slice none 0 0] 30)) (unhide W_189).le)
       clear W_189
       have bW_200 := hide ((unhide bW_190).alloc (.cells #[.int .i64 0, .int .i64 0, .int .i64 0, .slice none 0 0] 30))
       clear bW_190
       have bG_201 := hide ((unhide bG_191).alloc (.cells #[.int .i64 0, .int .i64 0, .int .i64 0, .slice none 0 0] 30))
       clear bG_191
       have G_202 := hide ((unhide G_192).below (Go.Joins.below_alloc1 _ (.cells #[.int .i64 0, .int .i64 0, .int .i64 0, .slice none 0 0] 30)) (unhide G_192).le)
       clear G_192
       have H_203 := hide ((unhide H_195).below (Go.Joins.below_alloc1 _ (.cells #[.int .i64 0, .int .i64 0, .int .i64 0, .slice none 0 0] 30)) (unhide H_195).le)
       clear H_195
       have bH_204 := hide (BF.new w26 #[.int .i64 0, .int .i64 0, .int .i64 0, .slice none 0 0] 30)
       rw [← hP] at bH_204
       go_simp
       refine hK.out _ _ ?_ (fun hHeldHA => ?_)
       · exact ⟨(unhide A_197).S, (unhide Av_198).S⟩
       clear hK K
       try simp only [Act.put, qqA, qqB, qqC]
       rw [← hP]
       clear hP
       generalize w26.alloc (.cells #[.int .i64 0, .int .i64 0, .int .i64 0, .slice none 0 0] 30) = w27 at B_196 A_197 Av_198 W_199 bW_200 bG_201 G_202 H_203 bH_204 hHeldHA ⊢
       refine wpAnyH_ready (rs := [9]) (by kernel_rfl) (by simp) ?_
       refine AllReadyH.cons (o := oAvw18) rfl (fun K hK => ?_) AllReadyH.nil
       have kn := (unhide bH_204).S
       have knf := (unhide bH_204).F
       obtain ⟨w28, hw28, hF28, hg28⟩ := put4G w27 (unhide bH_204) (.int .i64 nb2) (.int .i64 vw2) (.int .i64 vh2) (.slice aH nL cH)
       have hne28 : ∀ q, q ≠ PH → (some PH : Option Nat) ≠ some q := fun q h e => h (Option.some.inj e).symm
       have B_205 := hide ((unhide B_196).grown hg28 (unhide B_196).size (fun k hk => by have e : PH = k := Option.some.inj hk; omega))
       clear B_196
       have A_206 := hide ((unhide A_197).grown hg28 (hne28 _ (by omega)))
       clear A_197
       have Av_207 := hide ((unhide Av_198).grown hg28 (hne28 _ (by omega)))
       clear Av_198
       have W_208 := hide ((unhide W_199).grown hg28 (fun k hk => by have e : PH = k := Option.some.inj hk; omega))
       clear W_199
       have bW_209 := hide ((unhide bW_200).grown hg28 (hne28 _ (by omega)))
       clear bW_200
       have bG_210 := hide ((unhide bG_201).grown hg28 (hne28 _ (by omega)))
       clear bG_201
       have G_211 := hide ((unhide G_202).grown hg28 (fun k hk => by have e : PH = k := Option.some.inj hk; omega))
       clear G_202
       have H_212 := hide ((unhide H_203).grown hg28 (fun k hk => by have e : PH = k := Option.some.inj hk; omega))
       clear H_203
       have bH_213 := hide (hF28)
       clear bH_204
       go_simp
       rw [← hw28]
       refine hK.out _ _ ?_ (fun hHeldHS => ?_)
       · exact ⟨(unhide A_206).S, (unhide Av_207).S⟩
       clear hK K
       try simp only [Act.put, qqA, qqB, qqC]
       clear kn knf hw28 hF28 hg28 hne28
       refine wtk (i := 10) (oi := oAvw19) (v := ?_) rfl (Or.inl ⟨by rfl, ?_⟩) (by assumption) ?_
       rotate_left 1
       · (intro w' hSw; (try dsimp only at hSw); go_simp; try with_reducible rfl)
       try simp only [Act.put, qqA, qqB, qqC]
       refine wpAnyH_done (by kernel_rfl) ?_ _
       have zEH : PH < w28.heap.size := (unhide bH_213).lt
       have zHH : hiH ≤ w28.heap.size := (unhide H_212).le
       have kbH := (unhide bH_213).S
       have kbW := (unhide bW_209).S
       go_wp2_with fail
       refine (eqMr nb2 vw2 vh2 aH aW cH cW nL L HNL (Nat.le_trans (unhide HN10) (by decide)) _ (unhide H_212).rowV (unhide W_208).rowV).mono ?_
       rintro e w29 ⟨rfl, hb29⟩
       clear kbH kbW
       have B_214 := hide ((unhide B_205).trans (hb29.mono (unhide B_205).size))
       clear B_205
       have A_215 := hide ((unhide A_206).below hb29)
       clear A_206
       have Av_216 := hide ((unhide Av_207).below hb29)
       clear Av_207
       have W_217 := hide ((unhide W_208).below hb29 (unhide W_208).le)
       clear W_208
       have bW_218 := hide ((unhide bW_209).below hb29)
       clear bW_209
       have bG_219 := hide ((unhide bG_210).below hb29)
       clear bG_210
       have G_220 := hide ((unhide G_211).below hb29 (unhide G_211).le)
       clear G_211
       have H_221 := hide ((unhide H_212).below hb29 (unhide H_212).le)
       clear H_212
       have bH_222 := hide ((unhide bH_213).below hb29)
       clear bH_213
       clear hb29
       have kbG := (unhide bG_219).S
       go_wp2_with fail
       refine (heldMr nb2 vw2 vh2 _ nL _ _ _ 1 q HQ (by decide) (by decide) (by have := unhide HN10; omega) _ (unhide G_220)).mono ?_
       rintro e w30 ⟨rfl, hb30⟩
       clear kbG
       have B_223 := hide ((unhide B_214).trans (hb30.mono (unhide B_214).size))
       clear B_214
       have A_224 := hide ((unhide A_215).below hb30)
       clear A_215
       have Av_225 := hide ((unhide Av_216).below hb30)
       clear Av_216
       have W_226 := hide ((unhide W_217).below hb30 (unhide W_217).le)
       clear W_217
       have bW_227 := hide ((unhide bW_218).below hb30)
       clear bW_218
       have bG_228 := hide ((unhide bG_219).below hb30)
       clear bG_219
       have G_229 := hide ((unhide G_220).below hb30 (unhide G_220).le)
       clear G_220
       have H_230 := hide ((unhide H_221).below hb30 (unhide H_221).le)
       clear H_221
       have bH_231 := hide ((unhide bH_222).below hb30)
       clear bH_222
       clear hb30
       go_wp2_with fail
       go_ret
       exact ⟨rfl, (unhide B_223)⟩
      ·
       obtain ⟨PH, hP⟩ : ∃ P, P = w25.heap.size := ⟨_, rfl⟩
       have zPH : w.heap.size + 1 < PH := by rw [hP]; exact (unhide Av_179).lt
       have zPHG : w11.heap.size ≤ PH := by rw [hP]; exact (unhide G_183).le
       have zPHbW : PW < PH := by rw [hP]; exact (unhide bW_181).lt
       have zPHbG : w11.heap.size < PH := by rw [hP]; exact (unhide bG_182).lt
       have B_186 := hide ((unhide B_177).alloc (unhide B_177).size (.cells #[.int .i64 0, .int .i64 0, .int .i64 0, .slice none 0 0] 30))
       clear B_177
       have A_187 := hide ((unhide A_178).alloc (.cells #[.int .i64 0, .int .i64 0, .int .i64 0, .slice none 0 0] 30))
       clear A_178
       have Av_188 := hide ((unhide Av_179).alloc (.cells #[.int .i64 0, .int .i64 0, .int .i64 0, .slice none 0 0] 30))
       clear Av_179
       have W_189 := hide ((unhide W_180).below (Go.Joins.below_alloc1 _ (.cells #[.int .i64 0, .int .i64 0, .int .i64 0, .slice none 0 0] 30)) (unhide W_180).le)
       clear W_180
       have bW_190 := hide ((unhide bW_181).alloc (.cells #[.int .i64 0, .int .i64 0, .int .i64 0, .slice none 0 0] 30))
       clear bW_181
       have bG_191 := hide ((unhide bG_182).alloc (.cells #[.int .i64 0, .int .i64 0, .int .i64 0, .slice none 0 0] 30))
       clear bG_182
       have G_192 := hide ((unhide G_183).below (Go.Joins.below_alloc1 _ (.cells #[.int .i64 0, .int .i64 0, .int .i64 0, .slice none 0 0] 30)) (unhide G_183).le)
       clear G_183
       have HT1_193 := hide ((unhide HT1_184).below (Go.Joins.below_alloc1 _ (.cells #[.int .i64 0, .int .i64 0, .int .i64 0, .slice none 0 0] 30)) (unhide HT1_184).le)
       clear HT1_184
       have HT3_194 := hide ((unhide HT3_185).below (Go.Joins.below_alloc1 _ (.cells #[.int .i64 0, .int .i64 0, .int .i64 0, .slice none 0 0] 30)) (unhide HT3_185).le)
       clear HT3_185
       have bH_195 := hide (BF.new w25 #[.int .i64 0, .int .i64 0, .int .i64 0, .slice none 0 0] 30)
       rw [← hP] at bH_195
       go_simp
       refine hK.out _ _ ?_ (fun hHeldHA => ?_)
       · exact ⟨(unhide A_187).S, (unhide Av_188).S⟩
       clear hK K
       try simp only [Act.put, qqA, qqB, qqC]
       rw [← hP]
       clear hP
       generalize w25.alloc (.cells #[.int .i64 0, .int .i64 0, .int .i64 0, .slice none 0 0] 30) = w26 at B_186 A_187 Av_188 W_189 bW_190 bG_191 G_192 HT1_193 HT3_194 bH_195 hHeldHA ⊢
       refine wpAnyH_ready (rs := [4]) (by kernel_rfl) (by simp) ?_
       refine AllReadyH.cons (o := oAvw14) rfl (fun K hK => ?_) AllReadyH.nil
       have HPLH : Hid (PH < w26.heap.size) := (unhide bH_195).lt
       go_simp
       refine (iaccept nb vw vh _ _ n l HN (unhide HL) HSZ nbv frv fuv vwv vhv _ _ nv lv HNv (unhide HLv) HSZv nb2 vw2 vh2 L c HIS _ (unhide HT1_193).rowV (unhide HT3_194).rowV).mono ?_
       rintro e w27 ⟨vH, rfl, hoH, hb27⟩
       have zc27 := hb27.size
       have B_196 := hide ((unhide B_186).trans (hb27.mono (unhide B_186).size))
       clear B_186
       have A_197 := hide ((unhide A_187).below hb27)
       clear A_187
       have Av_198 := hide ((unhide Av_188).below hb27)
       clear Av_188
       have W_199 := hide ((unhide W_189).below hb27 (unhide W_189).le)
       clear W_189
       have bW_200 := hide ((unhide bW_190).below hb27)
       clear bW_190
       have bG_201 := hide ((unhide bG_191).below hb27)
       clear bG_191
       have G_202 := hide ((unhide G_192).below hb27 (unhide G_192).le)
       clear G_192
       have HT1_203 := hide ((unhide HT1_193).below hb27 (unhide HT1_193).le)
       clear HT1_193
       have HT3_204 := hide ((unhide HT3_194).below hb27 (unhide HT3_194).le)
       clear HT3_194
       have bH_205 := hide ((unhide bH_195).below hb27)
       clear bH_195
       clear hb27
       clear HT1_203
       clear HT3_204
       obtain ⟨aH, cH, rfl, -⟩ := own_rowV hoH
       rw [unhide HNL] at hoH
       rw [unhide HNL]
       obtain ⟨loH, hiH, eloH, ehiH⟩ : ∃ lo hi, lo = w26.heap.size ∧ hi = w27.heap.size := ⟨_, _, rfl, rfl⟩
       have H_206 := hide (held_of hoH)
       rw [← eloH, ← ehiH] at H_206
       have zPHr : PH < loH := by rw [eloH]; exact unhide HPLH
       clear hoH eloH ehiH
       go_wp2_with fail
       refine hK.out _ _ ?_ (fun hHeldH4 => ?_)
       · exact ⟨(unhide A_197).S, (unhide Av_198).S⟩
       clear hK K
       try simp only [Act.put, qqA, qqB, qqC]
       refine wtk (i := 5) (oi := oAvw15) (v := ?_) rfl (Or.inl ⟨by rfl, ?_⟩) (by assumption) ?_
       rotate_left 1
       · (intro w' hSw; (try dsimp only at hSw); go_simp; try with_reducible rfl)
       try simp only [Act.put, qqA, qqB, qqC]
       refine wtk (i := 6) (oi := oAvw16) (v := ?_) rfl (Or.inl ⟨by rfl, ?_⟩) (by assumption) ?_
       rotate_left 1
       · (intro w' hSw; (try dsimp only at hSw); go_simp; try with_reducible rfl)
       try simp only [Act.put, qqA, qqB, qqC]
       refine wtk (i := 7) (oi := oAvw17) (v := ?_) rfl (Or.inl ⟨by rfl, ?_⟩) (by assumption) ?_
       rotate_left 1
       · (intro w' hSw; (try dsimp only at hSw); go_simp; try with_reducible rfl)
       try simp only [Act.put, qqA, qqB, qqC]
       refine wpAnyH_ready (rs := [9]) (by kernel_rfl) (by simp) ?_
       refine AllReadyH.cons (o := oAvw18) rfl (fun K hK => ?_) AllReadyH.nil
       have kn := (unhide bH_205).S
       have knf := (unhide bH_205).F
       obtain ⟨w28, hw28, hF28, hg28⟩ := put4G w27 (unhide bH_205) (.int .i64 nb2) (.int .i64 vw2) (.int .i64 vh2) (.slice aH nL cH)
       have hne28 : ∀ q, q ≠ PH → (some PH : Option Nat) ≠ some q := fun q h e => h (Option.some.inj e).symm
       have B_207 := hide ((unhide B_196).grown hg28 (unhide B_196).size (fun k hk => by have e : PH = k := Option.some.inj hk; omega))
       clear B_196
       have A_208 := hide ((unhide A_197).grown hg28 (hne28 _ (by omega)))
       clear A_197
       have Av_209 := hide ((unhide Av_198).grown hg28 (hne28 _ (by omega)))
       clear Av_198
       have W_210 := hide ((unhide W_199).grown hg28 (fun k hk => by have e : PH = k := Option.some.inj hk; omega))
       clear W_199
       have bW_211 := hide ((unhide bW_200).grown hg28 (hne28 _ (by omega)))
       clear bW_200
       have bG_212 := hide ((unhide bG_201).grown hg28 (hne28 _ (by omega)))
       clear bG_201
       have G_213 := hide ((unhide G_202).grown hg28 (fun k hk => by have e : PH = k := Option.some.inj hk; omega))
       clear G_202
       have H_214 := hide ((unhide H_206).grown hg28 (fun k hk => by have e : PH = k := Option.some.inj hk; omega))
       clear H_206
       have bH_215 := hide (hF28)
       clear bH_205
       go_simp
       rw [← hw28]
       refine hK.out _ _ ?_ (fun hHeldHS => ?_)
       · exact ⟨(unhide A_208).S, (unhide Av_209).S⟩
       clear hK K
       try simp only [Act.put, qqA, qqB, qqC]
       clear kn knf hw28 hF28 hg28 hne28
       refine wtk (i := 10) (oi := oAvw19) (v := ?_) rfl (Or.inl ⟨by rfl, ?_⟩) (by assumption) ?_
       rotate_left 1
       · (intro w' hSw; (try dsimp only at hSw); go_simp; try with_reducible rfl)
       try simp only [Act.put, qqA, qqB, qqC]
       refine wpAnyH_done (by kernel_rfl) ?_ _
       have zEH : PH < w28.heap.size := (unhide bH_215).lt
       have zHH : hiH ≤ w28.heap.size := (unhide H_214).le
       have kbH := (unhide bH_215).S
       have kbW := (unhide bW_211).S
       go_wp2_with fail
       refine (eqMr nb2 vw2 vh2 aH aW cH cW nL L HNL (Nat.le_trans (unhide HN10) (by decide)) _ (unhide H_214).rowV (unhide W_210).rowV).mono ?_
       rintro e w29 ⟨rfl, hb29⟩
       clear kbH kbW
       have B_216 := hide ((unhide B_207).trans (hb29.mono (unhide B_207).size))
       clear B_207
       have A_217 := hide ((unhide A_208).below hb29)
       clear A_208
       have Av_218 := hide ((unhide Av_209).below hb29)
       clear Av_209
       have W_219 := hide ((unhide W_210).below hb29 (unhide W_210).le)
       clear W_210
       have bW_220 := hide ((unhide bW_211).below hb29)
       clear bW_211
       have bG_221 := hide ((unhide bG_212).below hb29)
       clear bG_212
       have G_222 := hide ((unhide G_213).below hb29 (unhide G_213).le)
       clear G_213
       have H_223 := hide ((unhide H_214).below hb29 (unhide H_214).le)
       clear H_214
       have bH_224 := hide ((unhide bH_215).below hb29)
       clear bH_215
       clear hb29
       have kbG := (unhide bG_221).S
       go_wp2_with fail
       refine (heldMr nb2 vw2 vh2 _ nL _ _ _ 1 q HQ (by decide) (by decide) (by have := unhide HN10; omega) _ (unhide G_222)).mono ?_
       rintro e w30 ⟨rfl, hb30⟩
       clear kbG
       have B_225 := hide ((unhide B_216).trans (hb30.mono (unhide B_216).size))
       clear B_216
       have A_226 := hide ((unhide A_217).below hb30)
       clear A_217
       have Av_227 := hide ((unhide Av_218).below hb30)
       clear Av_218
       have W_228 := hide ((unhide W_219).below hb30 (unhide W_219).le)
       clear W_219
       have bW_229 := hide ((unhide bW_220).below hb30)
       clear bW_220
       have bG_230 := hide ((unhide bG_221).below hb30)
       clear bG_221
       have G_231 := hide ((unhide G_222).below hb30 (unhide G_222).le)
       clear G_222
       have H_232 := hide ((unhide H_223).below hb30 (unhide H_223).le)
       clear H_223
       have bH_233 := hide ((unhide bH_224).below hb30)
       clear bH_224
       clear hb30
       go_wp2_with fail
       go_ret
       exact ⟨rfl, (unhide B_225)⟩
     ·
      obtain ⟨PH, hP⟩ : ∃ P, P = w24.heap.size := ⟨_, rfl⟩
      have zPH : w.heap.size + 1 < PH := by rw [hP]; exact (unhide Av_171).lt
      have zPHG : w11.heap.size ≤ PH := by rw [hP]; exact (unhide G_175).le
      have zPHbW : PW < PH := by rw [hP]; exact (unhide bW_173).lt
      have zPHbG : w11.heap.size < PH := by rw [hP]; exact (unhide bG_174).lt
      have B_177 := hide ((unhide B_169).alloc (unhide B_169).size (.cells #[.int .i64 0, .int .i64 0, .int .i64 0, .slice none 0 0] 30))
      clear B_169
      have A_178 := hide ((unhide A_170).alloc (.cells #[.int .i64 0, .int .i64 0, .int .i64 0, .slice none 0 0] 30))
      clear A_170
      have Av_179 := hide ((unhide Av_171).alloc (.cells #[.int .i64 0, .int .i64 0, .int .i64 0, .slice none 0 0] 30))
      clear Av_171
      have W_180 := hide ((unhide W_172).below (Go.Joins.below_alloc1 _ (.cells #[.int .i64 0, .int .i64 0, .int .i64 0, .slice none 0 0] 30)) (unhide W_172).le)
      clear W_172
      have bW_181 := hide ((unhide bW_173).alloc (.cells #[.int .i64 0, .int .i64 0, .int .i64 0, .slice none 0 0] 30))
      clear bW_173
      have bG_182 := hide ((unhide bG_174).alloc (.cells #[.int .i64 0, .int .i64 0, .int .i64 0, .slice none 0 0] 30))
      clear bG_174
      have G_183 := hide ((unhide G_175).below (Go.Joins.below_alloc1 _ (.cells #[.int .i64 0, .int .i64 0, .int .i64 0, .slice none 0 0] 30)) (unhide G_175).le)
      clear G_175
      have HT1_184 := hide ((unhide HT1_176).below (Go.Joins.below_alloc1 _ (.cells #[.int .i64 0, .int .i64 0, .int .i64 0, .slice none 0 0] 30)) (unhide HT1_176).le)
      clear HT1_176
      have bH_185 := hide (BF.new w24 #[.int .i64 0, .int .i64 0, .int .i64 0, .slice none 0 0] 30)
      rw [← hP] at bH_185
      go_simp
      refine hK.out _ _ ?_ (fun hHeldHA => ?_)
      · exact ⟨(unhide A_178).S, (unhide Av_179).S⟩
      clear hK K
      try simp only [Act.put, qqA, qqB, qqC]
      rw [← hP]
      clear hP
      generalize w24.alloc (.cells #[.int .i64 0, .int .i64 0, .int .i64 0, .slice none 0 0] 30) = w25 at B_177 A_178 Av_179 W_180 bW_181 bG_182 G_183 HT1_184 bH_185 hHeldHA ⊢
      refine wpAnyH_ready (rs := [3]) (by kernel_rfl) (by simp) ?_
      refine AllReadyH.cons (o := oAvw13) rfl (fun K hK => ?_) AllReadyH.nil
      go_simp
      refine (toVw nbv frv vwv vhv fuv av capv nv lv HNv (unhide HLv) _ ((unhide HRv).below (unhide B_177))).mono ?_
      rintro e w26 ⟨g26, rfl, o26, hb26⟩
      have zc26 := hb26.size
      have B_186 := hide ((unhide B_177).trans (hb26.mono (unhide B_177).size))
      clear B_177
      have A_187 := hide ((unhide A_178).below hb26)
      clear A_178
      have Av_188 := hide ((unhide Av_179).below hb26)
      clear Av_179
      have W_189 := hide ((unhide W_180).below hb26 (unhide W_180).le)
      clear W_180
      have bW_190 := hide ((unhide bW_181).below hb26)
      clear bW_181
      have bG_191 := hide ((unhide bG_182).below hb26)
      clear bG_182
      have G_192 := hide ((unhide G_183).below hb26 (unhide G_183).le)
      clear G_183
      have HT1_193 := hide ((unhide HT1_184).below hb26 (unhide HT1_184).le)
      clear HT1_184
      have bH_194 := hide ((unhide bH_185).below hb26)
      clear bH_185
      clear hb26
      have HT3_195 := hide (heldZ_of o26)
      clear o26
      go_wp2_with fail
      refine hK.out _ _ ?_ (fun hHeldH3 => ?_)
      · exact ⟨(unhide A_187).S, (unhide Av_188).S⟩
      clear hK K
      try simp only [Act.put, qqA, qqB, qqC]
      refine wpAnyH_ready (rs := [4]) (by kernel_rfl) (by simp) ?_
      refine AllReadyH.cons (o := oAvw14) rfl (fun K hK => ?_) AllReadyH.nil
      have HPLH : Hid (PH < w26.heap.size) := (unhide bH_194).lt
      go_simp
      refine (iaccept nb vw vh _ _ n l HN (unhide HL) HSZ nbv frv fuv vwv vhv _ _ nv lv HNv (unhide HLv) HSZv nb2 vw2 vh2 L c HIS _ (unhide HT1_193).rowV (unhide HT3_195).rowV).mono ?_
      rintro e w27 ⟨vH, rfl, hoH, hb27⟩
      have zc27 := hb27.size
      have B_196 := hide ((unhide B_186).trans (hb27.mono (unhide B_186).size))
      clear B_186
      have A_197 := hide ((unhide A_187).below hb27)
      clear A_187
      have Av_198 := hide ((unhide Av_188).below hb27)
      clear Av_188
      have W_199 := hide ((unhide W_189).below hb27 (unhide W_189).le)
      clear W_189
      have bW_200 := hide ((unhide bW_190).below hb27)
      clear bW_190
      have bG_201 := hide ((unhide bG_191).below hb27)
      clear bG_191
      have G_202 := hide ((unhide G_192).below hb27 (unhide G_192).le)
      clear G_192
      have HT1_203 := hide ((unhide HT1_193).below hb27 (unhide HT1_193).le)
      clear HT1_193
      have bH_204 := hide ((unhide bH_194).below hb27)
      clear bH_194
      have HT3_205 := hide ((unhide HT3_195).below hb27 (unhide HT3_195).le)
      clear HT3_195
      clear hb27
      clear HT1_203
      clear HT3_205
      obtain ⟨aH, cH, rfl, -⟩ := own_rowV hoH
      rw [unhide HNL] at hoH
      rw [unhide HNL]
      obtain ⟨loH, hiH, eloH, ehiH⟩ : ∃ lo hi, lo = w26.heap.size ∧ hi = w27.heap.size := ⟨_, _, rfl, rfl⟩
      have H_206 := hide (held_of hoH)
      rw [← eloH, ← ehiH] at H_206
      have zPHr : PH < loH := by rw [eloH]; exact unhide HPLH
      clear hoH eloH ehiH
      go_wp2_with fail
      refine hK.out _ _ ?_ (fun hHeldH4 => ?_)
      · exact ⟨(unhide A_197).S, (unhide Av_198).S⟩
      clear hK K
      try simp only [Act.put, qqA, qqB, qqC]
      refine wtk (i := 5) (oi := oAvw15) (v := ?_) rfl (Or.inl ⟨by rfl, ?_⟩) (by assumption) ?_
      rotate_left 1
      · (intro w' hSw; (try dsimp only at hSw); go_simp; try with_reducible rfl)
      try simp only [Act.put, qqA, qqB, qqC]
      refine wtk (i := 6) (oi := oAvw16) (v := ?_) rfl (Or.inl ⟨by rfl, ?_⟩) (by assumption) ?_
      rotate_left 1
      · (intro w' hSw; (try dsimp only at hSw); go_simp; try with_reducible rfl)
      try simp only [Act.put, qqA, qqB, qqC]
      refine wtk (i := 7) (oi := oAvw17) (v := ?_) rfl (Or.inl ⟨by rfl, ?_⟩) (by assumption) ?_
      rotate_left 1
      · (intro w' hSw; (try dsimp only at hSw); go_simp; try with_reducible rfl)
      try simp only [Act.put, qqA, qqB, qqC]
      refine wpAnyH_ready (rs := [9]) (by kernel_rfl) (by simp) ?_
      refine AllReadyH.cons (o := oAvw18) rfl (fun K hK => ?_) AllReadyH.nil
      have kn := (unhide bH_204).S
      have knf := (unhide bH_204).F
      obtain ⟨w28, hw28, hF28, hg28⟩ := put4G w27 (unhide bH_204) (.int .i64 nb2) (.int .i64 vw2) (.int .i64 vh2) (.slice aH nL cH)
      have hne28 : ∀ q, q ≠ PH → (some PH : Option Nat) ≠ some q := fun q h e => h (Option.some.inj e).symm
      have B_207 := hide ((unhide B_196).grown hg28 (unhide B_196).size (fun k hk => by have e : PH = k := Option.some.inj hk; omega))
      clear B_196
      have A_208 := hide ((unhide A_197).grown hg28 (hne28 _ (by omega)))
      clear A_197
      have Av_209 := hide ((unhide Av_198).grown hg28 (hne28 _ (by omega)))
      clear Av_198
      have W_210 := hide ((unhide W_199).grown hg28 (fun k hk => by have e : PH = k := Option.some.inj hk; omega))
      clear W_199
      have bW_211 := hide ((unhide bW_200).grown hg28 (hne28 _ (by omega)))
      clear bW_200
      have bG_212 := hide ((unhide bG_201).grown hg28 (hne28 _ (by omega)))
      clear bG_201
      have G_213 := hide ((unhide G_202).grown hg28 (fun k hk => by have e : PH = k := Option.some.inj hk; omega))
      clear G_202
      have H_214 := hide ((unhide H_206).grown hg28 (fun k hk => by have e : PH = k := Option.some.inj hk; omega))
      clear H_206
      have bH_215 := hide (hF28)
      clear bH_204
      go_simp
      rw [← hw28]
      refine hK.out _ _ ?_ (fun hHeldHS => ?_)
      · exact ⟨(unhide A_208).S, (unhide Av_209).S⟩
      clear hK K
      try simp only [Act.put, qqA, qqB, qqC]
      clear kn knf hw28 hF28 hg28 hne28
      refine wtk (i := 10) (oi := oAvw19) (v := ?_) rfl (Or.inl ⟨by rfl, ?_⟩) (by assumption) ?_
      rotate_left 1
      · (intro w' hSw; (try dsimp only at hSw); go_simp; try with_reducible rfl)
      try simp only [Act.put, qqA, qqB, qqC]
      refine wpAnyH_done (by kernel_rfl) ?_ _
      have zEH : PH < w28.heap.size := (unhide bH_215).lt
      have zHH : hiH ≤ w28.heap.size := (unhide H_214).le
      have kbH := (unhide bH_215).S
      have kbW := (unhide bW_211).S
      go_wp2_with fail
      refine (eqMr nb2 vw2 vh2 aH aW cH cW nL L HNL (Nat.le_trans (unhide HN10) (by decide)) _ (unhide H_214).rowV (unhide W_210).rowV).mono ?_
      rintro e w29 ⟨rfl, hb29⟩
      clear kbH kbW
      have B_216 := hide ((unhide B_207).trans (hb29.mono (unhide B_207).size))
      clear B_207
      have A_217 := hide ((unhide A_208).below hb29)
      clear A_208
      have Av_218 := hide ((unhide Av_209).below hb29)
      clear Av_209
      have W_219 := hide ((unhide W_210).below hb29 (unhide W_210).le)
      clear W_210
      have bW_220 := hide ((unhide bW_211).below hb29)
      clear bW_211
      have bG_221 := hide ((unhide bG_212).below hb29)
      clear bG_212
      have G_222 := hide ((unhide G_213).below hb29 (unhide G_213).le)
      clear G_213
      have H_223 := hide ((unhide H_214).below hb29 (unhide H_214).le)
      clear H_214
      have bH_224 := hide ((unhide bH_215).below hb29)
      clear bH_215
      clear hb29
      have kbG := (unhide bG_221).S
      go_wp2_with fail
      refine (heldMr nb2 vw2 vh2 _ nL _ _ _ 1 q HQ (by decide) (by decide) (by have := unhide HN10; omega) _ (unhide G_222)).mono ?_
      rintro e w30 ⟨rfl, hb30⟩
      clear kbG
      have B_225 := hide ((unhide B_216).trans (hb30.mono (unhide B_216).size))
      clear B_216
      have A_226 := hide ((unhide A_217).below hb30)
      clear A_217
      have Av_227 := hide ((unhide Av_218).below hb30)
      clear Av_218
      have W_228 := hide ((unhide W_219).below hb30 (unhide W_219).le)
      clear W_219
      have bW_229 := hide ((unhide bW_220).below hb30)
      clear bW_220
      have bG_230 := hide ((unhide bG_221).below hb30)
      clear bG_221
      have G_231 := hide ((unhide G_222).below hb30 (unhide G_222).le)
      clear G_222
      have H_232 := hide ((unhide H_223).below hb30 (unhide H_223).le)
      clear H_223
      have bH_233 := hide ((unhide bH_224).below hb30)
      clear bH_224
      clear hb30
      go_wp2_with fail
      go_ret
      exact ⟨rfl, (unhide B_225)⟩
    ·
     obtain ⟨PH, hP⟩ : ∃ P, P = w23.heap.size := ⟨_, rfl⟩
     have zPH : w.heap.size + 1 < PH := by rw [hP]; exact (unhide Av_164).lt
     have zPHG : w11.heap.size ≤ PH := by rw [hP]; exact (unhide G_168).le
     have zPHbW : PW < PH := by rw [hP]; exact (unhide bW_166).lt
     have zPHbG : w11.heap.size < PH := by rw [hP]; exact (unhide bG_167).lt
     have B_169 := hide ((unhide B_162).alloc (unhide B_162).size (.cells #[.int .i64 0, .int .i64 0, .int .i64 0, .slice none 0 0] 30))
     clear B_162
     have A_170 := hide ((unhide A_163).alloc (.cells #[.int .i64 0, .int .i64 0, .int .i64 0, .slice none 0 0] 30))
     clear A_163
     have Av_171 := hide ((unhide Av_164).alloc (.cells #[.int .i64 0, .int .i64 0, .int .i64 0, .slice none 0 0] 30))
     clear Av_164
     have W_172 := hide ((unhide W_165).below (Go.Joins.below_alloc1 _ (.cells #[.int .i64 0, .int .i64 0, .int .i64 0, .slice none 0 0] 30)) (unhide W_165).le)
     clear W_165
     have bW_173 := hide ((unhide bW_166).alloc (.cells #[.int .i64 0, .int .i64 0, .int .i64 0, .slice none 0 0] 30))
     clear bW_166
     have bG_174 := hide ((unhide bG_167).alloc (.cells #[.int .i64 0, .int .i64 0, .int .i64 0, .slice none 0 0] 30))
     clear bG_167
     have G_175 := hide ((unhide G_168).below (Go.Joins.below_alloc1 _ (.cells #[.int .i64 0, .int .i64 0, .int .i64 0, .slice none 0 0] 30)) (unhide G_168).le)
     clear G_168
     have bH_176 := hide (BF.new w23 #[.int .i64 0, .int .i64 0, .int .i64 0, .slice none 0 0] 30)
     rw [← hP] at bH_176
     go_simp
     refine hK.out _ _ ?_ (fun hHeldHA => ?_)
     · exact ⟨(unhide A_170).S, (unhide Av_171).S⟩
     clear hK K
     try simp only [Act.put, qqA, qqB, qqC]
     rw [← hP]
     clear hP
     generalize w23.alloc (.cells #[.int .i64 0, .int .i64 0, .int .i64 0, .slice none 0 0] 30) = w24 at B_169 A_170 Av_171 W_172 bW_173 bG_174 G_175 bH_176 hHeldHA ⊢
     refine wpAnyH_ready (rs := [1]) (by kernel_rfl) (by simp) ?_
     refine AllReadyH.cons (o := oAvw11) rfl (fun K hK => ?_) AllReadyH.nil
     go_simp
     refine (toMr nb vw vh a cap n l HN (unhide HL) _ ((unhide HR).below (unhide B_169))).mono ?_
     rintro e w25 ⟨g25, rfl, o25, hb25⟩
     have zc25 := hb25.size
     have B_177 := hide ((unhide B_169).trans (hb25.mono (unhide B_169).size))
     clear B_169
     have A_178 := hide ((unhide A_170).below hb25)
     clear A_170
     have Av_179 := hide ((unhide Av_171).below hb25)
     clear Av_171
     have W_180 := hide ((unhide W_172).below hb25 (unhide W_172).le)
     clear W_172
     have bW_181 := hide ((unhide bW_173).below hb25)
     clear bW_173
     have bG_182 := hide ((unhide bG_174).below hb25)
     clear bG_174
     have G_183 := hide ((unhide G_175).below hb25 (unhide G_175).le)
     clear G_175
     have bH_184 := hide ((unhide bH_176).below hb25)
     clear bH_176
     clear hb25
     have HT1_185 := hide (held_of o25)
     clear o25
     go_wp2_with fail
     refine hK.out _ _ ?_ (fun hHeldH1 => ?_)
     · exact ⟨(unhide A_178).S, (unhide Av_179).S⟩
     clear hK K
     try simp only [Act.put, qqA, qqB, qqC]
     refine wpAnyH_ready (rs := [3]) (by kernel_rfl) (by simp) ?_
     refine AllReadyH.cons (o := oAvw13) rfl (fun K hK => ?_) AllReadyH.nil
     go_simp
     refine (toVw nbv frv vwv vhv fuv av capv nv lv HNv (unhide HLv) _ ((unhide HRv).below (unhide B_177))).mono ?_
     rintro e w26 ⟨g26, rfl, o26, hb26⟩
     have zc26 := hb26.size
     have B_186 := hide ((unhide B_177).trans (hb26.mono (unhide B_177).size))
     clear B_177
     have A_187 := hide ((unhide A_178).below hb26)
     clear A_178
     have Av_188 := hide ((unhide Av_179).below hb26)
     clear Av_179
     have W_189 := hide ((unhide W_180).below hb26 (unhide W_180).le)
     clear W_180
     have bW_190 := hide ((unhide bW_181).below hb26)
     clear bW_181
     have bG_191 := hide ((unhide bG_182).below hb26)
     clear bG_182
     have G_192 := hide ((unhide G_183).below hb26 (unhide G_183).le)
     clear G_183
     have bH_193 := hide ((unhide bH_184).below hb26)
     clear bH_184
     have HT1_194 := hide ((unhide HT1_185).below hb26 (unhide HT1_185).le)
     clear HT1_185
     clear hb26
     have HT3_195 := hide (heldZ_of o26)
     clear o26
     go_wp2_with fail
     refine hK.out _ _ ?_ (fun hHeldH3 => ?_)
     · exact ⟨(unhide A_187).S, (unhide Av_188).S⟩
     clear hK K
     try simp only [Act.put, qqA, qqB, qqC]
     refine wpAnyH_ready (rs := [4]) (by kernel_rfl) (by simp) ?_
     refine AllReadyH.cons (o := oAvw14) rfl (fun K hK => ?_) AllReadyH.nil
     have HPLH : Hid (PH < w26.heap.size) := (unhide bH_193).lt
     go_simp
     refine (iaccept nb vw vh _ _ n l HN (unhide HL) HSZ nbv frv fuv vwv vhv _ _ nv lv HNv (unhide HLv) HSZv nb2 vw2 vh2 L c HIS _ (unhide HT1_194).rowV (unhide HT3_195).rowV).mono ?_
     rintro e w27 ⟨vH, rfl, hoH, hb27⟩
     have zc27 := hb27.size
     have B_196 := hide ((unhide B_186).trans (hb27.mono (unhide B_186).size))
     clear B_186
     have A_197 := hide ((unhide A_187).below hb27)
     clear A_187
     have Av_198 := hide ((unhide Av_188).below hb27)
     clear Av_188
     have W_199 := hide ((unhide W_189).below hb27 (unhide W_189).le)
     clear W_189
     have bW_200 := hide ((unhide bW_190).below hb27)
     clear bW_190
     have bG_201 := hide ((unhide bG_191).below hb27)
     clear bG_191
     have G_202 := hide ((unhide G_192).below hb27 (unhide G_192).le)
     clear G_192
     have bH_203 := hide ((unhide bH_193).below hb27)
     clear bH_193
     have HT1_204 := hide ((unhide HT1_194).below hb27 (unhide HT1_194).le)
     clear HT1_194
     have HT3_205 := hide ((unhide HT3_195).below hb27 (unhide HT3_195).le)
     clear HT3_195
     clear hb27
     clear HT1_204
     clear HT3_205
     obtain ⟨aH, cH, rfl, -⟩ := own_rowV hoH
     rw [unhide HNL] at hoH
     rw [unhide HNL]
     obtain ⟨loH, hiH, eloH, ehiH⟩ : ∃ lo hi, lo = w26.heap.size ∧ hi = w27.heap.size := ⟨_, _, rfl, rfl⟩
     have H_206 := hide (held_of hoH)
     rw [← eloH, ← ehiH] at H_206
     have zPHr : PH < loH := by rw [eloH]; exact unhide HPLH
     clear hoH eloH ehiH
     go_wp2_with fail
     refine hK.out _ _ ?_ (fun hHeldH4 => ?_)
     · exact ⟨(unhide A_197).S, (unhide Av_198).S⟩
     clear hK K
     try simp only [Act.put, qqA, qqB, qqC]
     refine wtk (i := 5) (oi := oAvw15) (v := ?_) rfl (Or.inl ⟨by rfl, ?_⟩) (by assumption) ?_
     rotate_left 1
     · (intro w' hSw; (try dsimp only at hSw); go_simp; try with_reducible rfl)
     try simp only [Act.put, qqA, qqB, qqC]
     refine wtk (i := 6) (oi := oAvw16) (v := ?_) rfl (Or.inl ⟨by rfl, ?_⟩) (by assumption) ?_
     rotate_left 1
     · (intro w' hSw; (try dsimp only at hSw); go_simp; try with_reducible rfl)
     try simp only [Act.put, qqA, qqB, qqC]
     refine wtk (i := 7) (oi := oAvw17) (v := ?_) rfl (Or.inl ⟨by rfl, ?_⟩) (by assumption) ?_
     rotate_left 1
     · (intro w' hSw; (try dsimp only at hSw); go_simp; try with_reducible rfl)
     try simp only [Act.put, qqA, qqB, qqC]
     refine wpAnyH_ready (rs := [9]) (by kernel_rfl) (by simp) ?_
     refine AllReadyH.cons (o := oAvw18) rfl (fun K hK => ?_) AllReadyH.nil
     have kn := (unhide bH_203).S
     have knf := (unhide bH_203).F
     obtain ⟨w28, hw28, hF28, hg28⟩ := put4G w27 (unhide bH_203) (.int .i64 nb2) (.int .i64 vw2) (.int .i64 vh2) (.slice aH nL cH)
     have hne28 : ∀ q, q ≠ PH → (some PH : Option Nat) ≠ some q := fun q h e => h (Option.some.inj e).symm
     have B_207 := hide ((unhide B_196).grown hg28 (unhide B_196).size (fun k hk => by have e : PH = k := Option.some.inj hk; omega))
     clear B_196
     have A_208 := hide ((unhide A_197).grown hg28 (hne28 _ (by omega)))
     clear A_197
     have Av_209 := hide ((unhide Av_198).grown hg28 (hne28 _ (by omega)))
     clear Av_198
     have W_210 := hide ((unhide W_199).grown hg28 (fun k hk => by have e : PH = k := Option.some.inj hk; omega))
     clear W_199
     have bW_211 := hide ((unhide bW_200).grown hg28 (hne28 _ (by omega)))
     clear bW_200
     have bG_212 := hide ((unhide bG_201).grown hg28 (hne28 _ (by omega)))
     clear bG_201
     have G_213 := hide ((unhide G_202).grown hg28 (fun k hk => by have e : PH = k := Option.some.inj hk; omega))
     clear G_202
     have H_214 := hide ((unhide H_206).grown hg28 (fun k hk => by have e : PH = k := Option.some.inj hk; omega))
     clear H_206
     have bH_215 := hide (hF28)
     clear bH_203
     go_simp
     rw [← hw28]
     refine hK.out _ _ ?_ (fun hHeldHS => ?_)
     · exact ⟨(unhide A_208).S, (unhide Av_209).S⟩
     clear hK K
     try simp only [Act.put, qqA, qqB, qqC]
     clear kn knf hw28 hF28 hg28 hne28
     refine wtk (i := 10) (oi := oAvw19) (v := ?_) rfl (Or.inl ⟨by rfl, ?_⟩) (by assumption) ?_
     rotate_left 1
     · (intro w' hSw; (try dsimp only at hSw); go_simp; try with_reducible rfl)
     try simp only [Act.put, qqA, qqB, qqC]
     refine wpAnyH_done (by kernel_rfl) ?_ _
     have zEH : PH < w28.heap.size := (unhide bH_215).lt
     have zHH : hiH ≤ w28.heap.size := (unhide H_214).le
     have kbH := (unhide bH_215).S
     have kbW := (unhide bW_211).S
     go_wp2_with fail
     refine (eqMr nb2 vw2 vh2 aH aW cH cW nL L HNL (Nat.le_trans (unhide HN10) (by decide)) _ (unhide H_214).rowV (unhide W_210).rowV).mono ?_
     rintro e w29 ⟨rfl, hb29⟩
     clear kbH kbW
     have B_216 := hide ((unhide B_207).trans (hb29.mono (unhide B_207).size))
     clear B_207
     have A_217 := hide ((unhide A_208).below hb29)
     clear A_208
     have Av_218 := hide ((unhide Av_209).below hb29)
     clear Av_209
     have W_219 := hide ((unhide W_210).below hb29 (unhide W_210).le)
     clear W_210
     have bW_220 := hide ((unhide bW_211).below hb29)
     clear bW_211
     have bG_221 := hide ((unhide bG_212).below hb29)
     clear bG_212
     have G_222 := hide ((unhide G_213).below hb29 (unhide G_213).le)
     clear G_213
     have H_223 := hide ((unhide H_214).below hb29 (unhide H_214).le)
     clear H_214
     have bH_224 := hide ((unhide bH_215).below hb29)
     clear bH_215
     clear hb29
     have kbG := (unhide bG_221).S
     go_wp2_with fail
     refine (heldMr nb2 vw2 vh2 _ nL _ _ _ 1 q HQ (by decide) (by decide) (by have := unhide HN10; omega) _ (unhide G_222)).mono ?_
     rintro e w30 ⟨rfl, hb30⟩
     clear kbG
     have B_225 := hide ((unhide B_216).trans (hb30.mono (unhide B_216).size))
     clear B_216
     have A_226 := hide ((unhide A_217).below hb30)
     clear A_217
     have Av_227 := hide ((unhide Av_218).below hb30)
     clear Av_218
     have W_228 := hide ((unhide W_219).below hb30 (unhide W_219).le)
     clear W_219
     have bW_229 := hide ((unhide bW_220).below hb30)
     clear bW_220
     have bG_230 := hide ((unhide bG_221).below hb30)
     clear bG_221
     have G_231 := hide ((unhide G_222).below hb30 (unhide G_222).le)
     clear G_222
     have H_232 := hide ((unhide H_223).below hb30 (unhide H_223).le)
     clear H_223
     have bH_233 := hide ((unhide bH_224).below hb30)
     clear bH_224
     clear hb30
     go_wp2_with fail
     go_ret
     exact ⟨rfl, (unhide B_225)⟩
  ·
   obtain ⟨PW, hP⟩ : ∃ P, P = w4.heap.size := ⟨_, rfl⟩
   have zPW : w.heap.size + 1 < PW := by rw [hP]; exact (unhide Av_15).lt
   have B_17 := hide ((unhide B_13).alloc (unhide B_13).size (.cells #[.int .i64 0, .int .i64 0, .int .i64 0, .slice none 0 0] 30))
   clear B_13
   have A_18 := hide ((unhide A_14).alloc (.cells #[.int .i64 0, .int .i64 0, .int .i64 0, .slice none 0 0] 30))
   clear A_14
   have Av_19 := hide ((unhide Av_15).alloc (.cells #[.int .i64 0, .int .i64 0, .int .i64 0, .slice none 0 0] 30))
   clear Av_15
   have WT1_20 := hide ((unhide WT1_16).below (Go.Joins.below_alloc1 _ (.cells #[.int .i64 0, .int .i64 0, .int .i64 0, .slice none 0 0] 30)) (unhide WT1_16).le)
   clear WT1_16
   have bW_21 := hide (BF.new w4 #[.int .i64 0, .int .i64 0, .int .i64 0, .slice none 0 0] 30)
   rw [← hP] at bW_21
   go_simp
   refine hK.out _ _ ?_ (fun hHeldWA => ?_)
   · exact ⟨(unhide A_18).S, (unhide Av_19).S⟩
   clear hK K
   try simp only [Act.put, qqA, qqB, qqC]
   rw [← hP]
   clear hP
   generalize w4.alloc (.cells #[.int .i64 0, .int .i64 0, .int .i64 0, .slice none 0 0] 30) = w5 at B_17 A_18 Av_19 WT1_20 bW_21 hHeldWA ⊢
   refine wpAnyH_ready (rs := [3]) (by kernel_rfl) (by simp) ?_
   refine AllReadyH.cons (o := oAvw2) rfl (fun K hK => ?_) AllReadyH.nil
   go_simp
   refine (toVw nbv frv vwv vhv fuv av capv nv lv HNv (unhide HLv) _ ((unhide HRv).below (unhide B_17))).mono ?_
   rintro e w6 ⟨g6, rfl, o6, hb6⟩
   have zc6 := hb6.size
   have B_22 := hide ((unhide B_17).trans (hb6.mono (unhide B_17).size))
   clear B_17
   have A_23 := hide ((unhide A_18).below hb6)
   clear A_18
   have Av_24 := hide ((unhide Av_19).below hb6)
   clear Av_19
   have WT1_25 := hide ((unhide WT1_20).below hb6 (unhide WT1_20).le)
   clear WT1_20
   have bW_26 := hide ((unhide bW_21).below hb6)
   clear bW_21
   clear hb6
   have WT3_27 := hide (heldZ_of o6)
   clear o6
   go_wp2_with fail
   refine hK.out _ _ ?_ (fun hHeldW3 => ?_)
   · exact ⟨(unhide A_23).S, (unhide Av_24).S⟩
   clear hK K
   try simp only [Act.put, qqA, qqB, qqC]
   refine wpAnyH_ready (rs := [4]) (by kernel_rfl) (by simp) ?_
   refine AllReadyH.cons (o := oAvw3) rfl (fun K hK => ?_) AllReadyH.nil
   have HPLW : Hid (PW < w6.heap.size) := (unhide bW_26).lt
   go_simp
   refine (saccept nb vw vh _ _ n l HN (unhide HL) HSZ nbv frv fuv vwv vhv _ _ nv lv HNv (unhide HLv) HSZv nb2 vw2 vh2 L c HIS _ (unhide WT1_25).rowV (unhide WT3_27).rowV).mono ?_
   rintro e w7 ⟨vW, rfl, hoW, hb7⟩
   have zc7 := hb7.size
   have B_28 := hide ((unhide B_22).trans (hb7.mono (unhide B_22).size))
   clear B_22
   have A_29 := hide ((unhide A_23).below hb7)
   clear A_23
   have Av_30 := hide ((unhide Av_24).below hb7)
   clear Av_24
   have WT1_31 := hide ((unhide WT1_25).below hb7 (unhide WT1_25).le)
   clear WT1_25
   have bW_32 := hide ((unhide bW_26).below hb7)
   clear bW_26
   have WT3_33 := hide ((unhide WT3_27).below hb7 (unhide WT3_27).le)
   clear WT3_27
   clear hb7
   clear WT1_31
   clear WT3_33
   obtain ⟨aW, cW, rfl, -⟩ := own_rowV hoW
   rw [unhide HNL] at hoW
   rw [unhide HNL]
   obtain ⟨loW, hiW, eloW, ehiW⟩ : ∃ lo hi, lo = w6.heap.size ∧ hi = w7.heap.size := ⟨_, _, rfl, rfl⟩
   have W_34 := hide (held_of hoW)
   rw [← eloW, ← ehiW] at W_34
   have zPWr : PW < loW := by rw [eloW]; exact unhide HPLW
   clear hoW eloW ehiW
   go_wp2_with fail
   refine hK.out _ _ ?_ (fun hHeldW4 => ?_)
   · exact ⟨(unhide A_29).S, (unhide Av_30).S⟩
   clear hK K
   try simp only [Act.put, qqA, qqB, qqC]
   refine wtk (i := 5) (oi := oAvw4) (v := ?_) rfl (Or.inl ⟨by rfl, ?_⟩) (by assumption) ?_
   rotate_left 1
   · (intro w' hSw; (try dsimp only at hSw); go_simp; try with_reducible rfl)
   try simp only [Act.put, qqA, qqB, qqC]
   refine wtk (i := 6) (oi := oAvw5) (v := ?_) rfl (Or.inl ⟨by rfl, ?_⟩) (by assumption) ?_
   rotate_left 1
   · (intro w' hSw; (try dsimp only at hSw); go_simp; try with_reducible rfl)
   try simp only [Act.put, qqA, qqB, qqC]
   refine wtk (i := 7) (oi := oAvw6) (v := ?_) rfl (Or.inl ⟨by rfl, ?_⟩) (by assumption) ?_
   rotate_left 1
   · (intro w' hSw; (try dsimp only at hSw); go_simp; try with_reducible rfl)
   try simp only [Act.put, qqA, qqB, qqC]
   refine wpAnyH_ready (rs := [9]) (by kernel_rfl) (by simp) ?_
   refine AllReadyH.cons (o := oAvw7) rfl (fun K hK => ?_) AllReadyH.nil
   have kn := (unhide bW_32).S
   have knf := (unhide bW_32).F
   obtain ⟨w8, hw8, hF8, hg8⟩ := put4G w7 (unhide bW_32) (.int .i64 nb2) (.int .i64 vw2) (.int .i64 vh2) (.slice aW nL cW)
   have hne8 : ∀ q, q ≠ PW → (some PW : Option Nat) ≠ some q := fun q h e => h (Option.some.inj e).symm
   have B_35 := hide ((unhide B_28).grown hg8 (unhide B_28).size (fun k hk => by have e : PW = k := Option.some.inj hk; omega))
   clear B_28
   have A_36 := hide ((unhide A_29).grown hg8 (hne8 _ (by omega)))
   clear A_29
   have Av_37 := hide ((unhide Av_30).grown hg8 (hne8 _ (by omega)))
   clear Av_30
   have W_38 := hide ((unhide W_34).grown hg8 (fun k hk => by have e : PW = k := Option.some.inj hk; omega))
   clear W_34
   have bW_39 := hide (hF8)
   clear bW_32
   go_simp
   rw [← hw8]
   refine hK.out _ _ ?_ (fun hHeldWS => ?_)
   · exact ⟨(unhide A_36).S, (unhide Av_37).S⟩
   clear hK K
   try simp only [Act.put, qqA, qqB, qqC]
   clear kn knf hw8 hF8 hg8 hne8
   refine wtk (i := 10) (oi := oAvw8) (v := ?_) rfl (Or.inl ⟨by rfl, ?_⟩) (by assumption) ?_
   rotate_left 1
   · (intro w' hSw; (try dsimp only at hSw); go_simp; try with_reducible rfl)
   try simp only [Act.put, qqA, qqB, qqC]
   refine wpAnyH_done (by kernel_rfl) ?_ _
   have zEW : PW < w8.heap.size := (unhide bW_39).lt
   have zHW : hiW ≤ w8.heap.size := (unhide W_38).le
   have kA := (unhide A_36).S
   have kAv := (unhide Av_37).S
   go_wp2_with fail
   refine (toMr nb vw vh a cap n l HN (unhide HL) _ ((unhide HR).below (unhide B_35))).mono ?_
   rintro e w9 ⟨g9, rfl, o9, hb9⟩
   clear kA kAv
   have z9 : w8.heap.size ≤ w9.heap.size := by have := hb9.size; (try simp at this); omega
   have B_40 := hide ((unhide B_35).trans (hb9.mono (unhide B_35).size))
   clear B_35
   have A_41 := hide ((unhide A_36).below hb9)
   clear A_36
   have Av_42 := hide ((unhide Av_37).below hb9)
   clear Av_37
   have W_43 := hide ((unhide W_38).below hb9 (unhide W_38).le)
   clear W_38
   have bW_44 := hide ((unhide bW_39).below hb9)
   clear bW_39
   clear hb9
   have X_45 := hide (held_of o9)
   clear o9
   try simp only [World.size_alloc] at X_45
   have B_46 := hide ((unhide B_40).alloc (unhide B_40).size (.cells #[.int .i64 nb, .int .i64 vw, .int .i64 vh, .slice (some ⟨g9, 0, none⟩) n n] 30))
   clear B_40
   have A_47 := hide ((unhide A_41).alloc (.cells #[.int .i64 nb, .int .i64 vw, .int .i64 vh, .slice (some ⟨g9, 0, none⟩) n n] 30))
   clear A_41
   have Av_48 := hide ((unhide Av_42).alloc (.cells #[.int .i64 nb, .int .i64 vw, .int .i64 vh, .slice (some ⟨g9, 0, none⟩) n n] 30))
   clear Av_42
   have W_49 := hide ((unhide W_43).below (Go.Joins.below_alloc1 _ (.cells #[.int .i64 nb, .int .i64 vw, .int .i64 vh, .slice (some ⟨g9, 0, none⟩) n n] 30)) (unhide W_43).le)
   clear W_43
   have bW_50 := hide ((unhide bW_44).alloc (.cells #[.int .i64 nb, .int .i64 vw, .int .i64 vh, .slice (some ⟨g9, 0, none⟩) n n] 30))
   clear bW_44
   have X_51 := hide ((unhide X_45).below (Go.Joins.below_alloc1 _ (.cells #[.int .i64 nb, .int .i64 vw, .int .i64 vh, .slice (some ⟨g9, 0, none⟩) n n] 30)) (unhide X_45).le)
   clear X_45
   have bX_52 := hide (BF.new w9 #[.int .i64 nb, .int .i64 vw, .int .i64 vh, .slice (some ⟨g9, 0, none⟩) n n] 30)
   have kA := (unhide A_47).S
   have kAv := (unhide Av_48).S
   go_wp2_with fail
   refine (toVw nbv frv vwv vhv fuv av capv nv lv HNv (unhide HLv) _ ((unhide HRv).below (unhide B_46))).mono ?_
   rintro e w10 ⟨g10, rfl, o10, hb10⟩
   clear kA kAv
   have z10 : w9.heap.size + 1 ≤ w10.heap.size := by have := hb10.size; (try simp at this); omega
   have B_53 := hide ((unhide B_46).trans (hb10.mono (unhide B_46).size))
   clear B_46
   have A_54 := hide ((unhide A_47).below hb10)
   clear A_47
   have Av_55 := hide ((unhide Av_48).below hb10)
   clear Av_48
   have W_56 := hide ((unhide W_49).below hb10 (unhide W_49).le)
   clear W_49
   have bW_57 := hide ((unhide bW_50).below hb10)
   clear bW_50
   have X_58 := hide ((unhide X_51).below hb10 (unhide X_51).le)
   clear X_51
   have bX_59 := hide ((unhide bX_52).below hb10)
   clear bX_52
   clear hb10
   have Y_60 := hide (heldZ_of o10)
   clear o10
   try simp only [World.size_alloc] at Y_60
   have B_61 := hide ((unhide B_53).alloc (unhide B_53).size (.cells #[.int .i64 nbv, .int .i64 frv, .bool fuv, .int .i64 vwv, .int .i64 vhv, .slice (some ⟨g10, 0, none⟩) nv nv] 36))
   clear B_53
   have A_62 := hide ((unhide A_54).alloc (.cells #[.int .i64 nbv, .int .i64 frv, .bool fuv, .int .i64 vwv, .int .i64 vhv, .slice (some ⟨g10, 0, none⟩) nv nv] 36))
   clear A_54
   have Av_63 := hide ((unhide Av_55).alloc (.cells #[.int .i64 nbv, .int .i64 frv, .bool fuv, .int .i64 vwv, .int .i64 vhv, .slice (some ⟨g10, 0, none⟩) nv nv] 36))
   clear Av_55
   have W_64 := hide ((unhide W_56).below (Go.Joins.below_alloc1 _ (.cells #[.int .i64 nbv, .int .i64 frv, .bool fuv, .int .i64 vwv, .int .i64 vhv, .slice (some ⟨g10, 0, none⟩) nv nv] 36)) (unhide W_56).le)
   clear W_56
   have bW_65 := hide ((unhide bW_57).alloc (.cells #[.int .i64 nbv, .int .i64 frv, .bool fuv, .int .i64 vwv, .int .i64 vhv, .slice (some ⟨g10, 0, none⟩) nv nv] 36))
   clear bW_57
   have X_66 := hide ((unhide X_58).below (Go.Joins.below_alloc1 _ (.cells #[.int .i64 nbv, .int .i64 frv, .bool fuv, .int .i64 vwv, .int .i64 vhv, .slice (some ⟨g10, 0, none⟩) nv nv] 36)) (unhide X_58).le)
   clear X_58
   have bX_67 := hide ((unhide bX_59).alloc (.cells #[.int .i64 nbv, .int .i64 frv, .bool fuv, .int .i64 vwv, .int .i64 vhv, .slice (some ⟨g10, 0, none⟩) nv nv] 36))
   clear bX_59
   have Y_68 := hide ((unhide Y_60).below (Go.Joins.below_alloc1 _ (.cells #[.int .i64 nbv, .int .i64 frv, .bool fuv, .int .i64 vwv, .int .i64 vhv, .slice (some ⟨g10, 0, none⟩) nv nv] 36)) (unhide Y_60).le)
   clear Y_60
   have bY_69 := hide (BF.new w10 #[.int .i64 nbv, .int .i64 frv, .bool fuv, .int .i64 vwv, .int .i64 vhv, .slice (some ⟨g10, 0, none⟩) nv nv] 36)
   have kbX := (unhide bX_67).S
   have kbY := (unhide bY_69).S
   go_wp2_with fail
   refine (iaccept nb vw vh _ _ n l HN (unhide HL) HSZ nbv frv fuv vwv vhv _ _ nv lv HNv (unhide HLv) HSZv nb2 vw2 vh2 L c HIS _ (unhide X_66).rowV (unhide Y_68).rowV).mono ?_
   rintro e w11 ⟨vG, rfl, hoG, hb11⟩
   clear kbX kbY
   have z11 : w10.heap.size + 1 ≤ w11.heap.size := by have := hb11.size; (try simp at this); omega
   have B_70 := hide ((unhide B_61).trans (hb11.mono (unhide B_61).size))
   clear B_61
   have A_71 := hide ((unhide A_62).below hb11)
   clear A_62
   have Av_72 := hide ((unhide Av_63).below hb11)
   clear Av_63
   have W_73 := hide ((unhide W_64).below hb11 (unhide W_64).le)
   clear W_64
   have bW_74 := hide ((unhide bW_65).below hb11)
   clear bW_65
   have X_75 := hide ((unhide X_66).below hb11 (unhide X_66).le)
   clear X_66
   have bX_76 := hide ((unhide bX_67).below hb11)
   clear bX_67
   have Y_77 := hide ((unhide Y_68).below hb11 (unhide Y_68).le)
   clear Y_68
   have bY_78 := hide ((unhide bY_69).below hb11)
   clear bY_69
   clear hb11
   obtain ⟨aG, cG, rfl, -⟩ := own_rowV hoG
   rw [unhide HNL] at hoG
   have G_79 := hide (held_of hoG)
   clear hoG
   try simp only [World.size_alloc] at G_79
   rw [unhide HNL]
   have B_80 := hide ((unhide B_70).alloc (unhide B_70).size (.cells #[.int .i64 nb2, .int .i64 vw2, .int .i64 vh2, .slice aG nL cG] 30))
   clear B_70
   have A_81 := hide ((unhide A_71).alloc (.cells #[.int .i64 nb2, .int .i64 vw2, .int .i64 vh2, .slice aG nL cG] 30))
   clear A_71
   have Av_82 := hide ((unhide Av_72).alloc (.cells #[.int .i64 nb2, .int .i64 vw2, .int .i64 vh2, .slice aG nL cG] 30))
   clear Av_72
   have W_83 := hide ((unhide W_73).below (Go.Joins.below_alloc1 _ (.cells #[.int .i64 nb2, .int .i64 vw2, .int .i64 vh2, .slice aG nL cG] 30)) (unhide W_73).le)
   clear W_73
   have bW_84 := hide ((unhide bW_74).alloc (.cells #[.int .i64 nb2, .int .i64 vw2, .int .i64 vh2, .slice aG nL cG] 30))
   clear bW_74
   have X_85 := hide ((unhide X_75).below (Go.Joins.below_alloc1 _ (.cells #[.int .i64 nb2, .int .i64 vw2, .int .i64 vh2, .slice aG nL cG] 30)) (unhide X_75).le)
   clear X_75
   have bX_86 := hide ((unhide bX_76).alloc (.cells #[.int .i64 nb2, .int .i64 vw2, .int .i64 vh2, .slice aG nL cG] 30))
   clear bX_76
   have Y_87 := hide ((unhide Y_77).below (Go.Joins.below_alloc1 _ (.cells #[.int .i64 nb2, .int .i64 vw2, .int .i64 vh2, .slice aG nL cG] 30)) (unhide Y_77).le)
   clear Y_77
   have bY_88 := hide ((unhide bY_78).alloc (.cells #[.int .i64 nb2, .int .i64 vw2, .int .i64 vh2, .slice aG nL cG] 30))
   clear bY_78
   have G_89 := hide ((unhide G_79).below (Go.Joins.below_alloc1 _ (.cells #[.int .i64 nb2, .int .i64 vw2, .int .i64 vh2, .slice aG nL cG] 30)) (unhide G_79).le)
   clear G_79
   have bG_90 := hide (BF.new w11 #[.int .i64 nb2, .int .i64 vw2, .int .i64 vh2, .slice aG nL cG] 30)
   have kbG := (unhide bG_90).S
   have kbW := (unhide bW_84).S
   go_wp2_with fail
   refine (eqMr nb2 vw2 vh2 aG aW cG cW nL L HNL (Nat.le_trans (unhide HN10) (by decide)) _ (unhide G_89).rowV (unhide W_83).rowV).mono ?_
   rintro e w12 ⟨rfl, hb12⟩
   clear kbG kbW
   have B_91 := hide ((unhide B_80).trans (hb12.mono (unhide B_80).size))
   clear B_80
   have A_92 := hide ((unhide A_81).below hb12)
   clear A_81
   have Av_93 := hide ((unhide Av_82).below hb12)
   clear Av_82
   have W_94 := hide ((unhide W_83).below hb12 (unhide W_83).le)
   clear W_83
   have bW_95 := hide ((unhide bW_84).below hb12)
   clear bW_84
   have X_96 := hide ((unhide X_85).below hb12 (unhide X_85).le)
   clear X_85
   have bX_97 := hide ((unhide bX_86).below hb12)
   clear bX_86
   have Y_98 := hide ((unhide Y_87).below hb12 (unhide Y_87).le)
   clear Y_87
   have bY_99 := hide ((unhide bY_88).below hb12)
   clear bY_88
   have G_100 := hide ((unhide G_89).below hb12 (unhide G_89).le)
   clear G_89
   have bG_101 := hide ((unhide bG_90).below hb12)
   clear bG_90
   clear hb12
   have K6 := And.intro (unhide A_92).S (unhide bX_97).S
   have HU6 := hide (unhide X_96).rowV
   have LA : w.heap.size < _ := (unhide A_92).lt
   have LX : w9.heap.size < _ := (unhide bX_97).lt
   go_wp2_with fail
   go_region_held3 (fun w' => (∀ o, w'.cell? ⟨w.heap.size, o, none⟩ = (#[.int .i64 nb, .int .i64 vw, .int .i64 vh, .slice a n cap] : Array Value)[o]?) ∧ (∀ o, w'.cell? ⟨w9.heap.size, o, none⟩ = (#[.int .i64 nb, .int .i64 vw, .int .i64 vh, .slice (some ⟨g9, 0, none⟩) n n] : Array Value)[o]?)) (first | exact K6 | exact K7 | exact K8) (first | (go_at_call 7; refine (toMr nb vw vh a cap n l HN (unhide HL) _ ((unhide HR).below (unhide B_91).drew)).mono ?_; rintro e w13 ⟨g13, rfl, o13, hb13⟩; have K7 := And.intro (fun o => (hb13.cell (p := ⟨w.heap.size, o, none⟩) LA).trans (K6.1 o)) (fun o => (hb13.cell (p := ⟨w9.heap.size, o, none⟩) LX).trans (K6.2 o)); have HO7 := hide (rowZ_at o13); have HU7 := hide ((unhide HU6).below (below_undrew hb13)); have HT7 := hide (below_undrew hb13); have LA7 := Nat.lt_of_lt_of_le LA (unhide HT7).size; have LX7 := Nat.lt_of_lt_of_le LX (unhide HT7).size; clear o13 hb13) | (go_at_call 10; refine (eqMr nb vw vh _ _ _ _ n l HN (unhide HL) _ (unhide HU7) (unhide HO7)).mono ?_; rintro e w14 ⟨rfl, hb14⟩; have K8 := And.intro (fun o => (hb14.cell (p := ⟨w.heap.size, o, none⟩) LA7).trans (K7.1 o)) (fun o => (hb14.cell (p := ⟨w9.heap.size, o, none⟩) LX7).trans (K7.2 o)); have HT8 := hide ((unhide HT7).trans (hb14.mono (unhide HT7).size)); clear hb14))
   clear K6 K7 K8 HO7 HU6 HU7 HT7 LA LX LA7 LX7
   have B_102 := hide ((unhide B_91).trans ((unhide HT8).mono (unhide B_91).size))
   clear B_91
   have A_103 := hide ((unhide A_92).below (unhide HT8))
   clear A_92
   have Av_104 := hide ((unhide Av_93).below (unhide HT8))
   clear Av_93
   have W_105 := hide ((unhide W_94).below (unhide HT8) (unhide W_94).le)
   clear W_94
   have bW_106 := hide ((unhide bW_95).below (unhide HT8))
   clear bW_95
   have X_107 := hide ((unhide X_96).below (unhide HT8) (unhide X_96).le)
   clear X_96
   have bX_108 := hide ((unhide bX_97).below (unhide HT8))
   clear bX_97
   have Y_109 := hide ((unhide Y_98).below (unhide HT8) (unhide Y_98).le)
   clear Y_98
   have bY_110 := hide ((unhide bY_99).below (unhide HT8))
   clear bY_99
   have G_111 := hide ((unhide G_100).below (unhide HT8) (unhide G_100).le)
   clear G_100
   have bG_112 := hide ((unhide bG_101).below (unhide HT8))
   clear bG_101
   clear HT8
   have K6 := And.intro (unhide Av_104).S (unhide bY_110).S
   have HU6 := hide (unhide Y_109).rowV
   have LA : (w.heap.size + 1) < _ := (unhide Av_104).lt
   have LX : w10.heap.size < _ := (unhide bY_110).lt
   go_wp2_with fail
   go_region_held3 (fun w' => (∀ o, w'.cell? ⟨(w.heap.size + 1), o, none⟩ = (#[.int .i64 nbv, .int .i64 frv, .bool fuv, .int .i64 vwv, .int .i64 vhv, .slice av nv capv] : Array Value)[o]?) ∧ (∀ o, w'.cell? ⟨w10.heap.size, o, none⟩ = (#[.int .i64 nbv, .int .i64 frv, .bool fuv, .int .i64 vwv, .int .i64 vhv, .slice (some ⟨g10, 0, none⟩) nv nv] : Array Value)[o]?)) (first | exact K6 | exact K7 | exact K8) (first | (go_at_call 8; refine (toVw nbv frv vwv vhv fuv av capv nv lv HNv (unhide HLv) _ ((unhide HRv).below (unhide B_102).drew)).mono ?_; rintro e w15 ⟨g15, rfl, o15, hb15⟩; have K7 := And.intro (fun o => (hb15.cell (p := ⟨(w.heap.size + 1), o, none⟩) LA).trans (K6.1 o)) (fun o => (hb15.cell (p := ⟨w10.heap.size, o, none⟩) LX).trans (K6.2 o)); have HO7 := hide (rowZ_at o15); have HU7 := hide ((unhide HU6).below (below_undrew hb15)); have HT7 := hide (below_undrew hb15); have LA7 := Nat.lt_of_lt_of_le LA (unhide HT7).size; have LX7 := Nat.lt_of_lt_of_le LX (unhide HT7).size; clear o15 hb15) | (go_at_call 11; refine (eqVw nbv frv vwv vhv fuv _ _ _ _ nv lv HNv (unhide HLv) _ (unhide HU7) (unhide HO7)).mono ?_; rintro e w16 ⟨rfl, hb16⟩; have K8 := And.intro (fun o => (hb16.cell (p := ⟨(w.heap.size + 1), o, none⟩) LA7).trans (K7.1 o)) (fun o => (hb16.cell (p := ⟨w10.heap.size, o, none⟩) LX7).trans (K7.2 o)); have HT8 := hide ((unhide HT7).trans (hb16.mono (unhide HT7).size)); clear hb16))
   clear K6 K7 K8 HO7 HU6 HU7 HT7 LA LX LA7 LX7
   have B_113 := hide ((unhide B_102).trans ((unhide HT8).mono (unhide B_102).size))
   clear B_102
   have A_114 := hide ((unhide A_103).below (unhide HT8))
   clear A_103
   have Av_115 := hide ((unhide Av_104).below (unhide HT8))
   clear Av_104
   have W_116 := hide ((unhide W_105).below (unhide HT8) (unhide W_105).le)
   clear W_105
   have bW_117 := hide ((unhide bW_106).below (unhide HT8))
   clear bW_106
   have X_118 := hide ((unhide X_107).below (unhide HT8) (unhide X_107).le)
   clear X_107
   have bX_119 := hide ((unhide bX_108).below (unhide HT8))
   clear bX_108
   have Y_120 := hide ((unhide Y_109).below (unhide HT8) (unhide Y_109).le)
   clear Y_109
   have bY_121 := hide ((unhide bY_110).below (unhide HT8))
   clear bY_110
   have G_122 := hide ((unhide G_111).below (unhide HT8) (unhide G_111).le)
   clear G_111
   have bG_123 := hide ((unhide bG_112).below (unhide HT8))
   clear bG_112
   clear HT8
   have kbX := (unhide bX_119).S
   go_wp2_with fail
   refine (markMr nb vw vh _ n _ _ _ 1 (kx : Int) HKX _ (by decide) (by decide) (unhide HKB).2.2 _ (unhide X_118)).mono ?_
   rintro e w17 ⟨rfl, h17, hg17⟩
   clear kbX
   have B_124 := hide (Below.marked (unhide B_113) (unhide B_113).size (unhide X_118) (by omega) hg17)
   clear B_113
   have A_125 := hide ((unhide A_114).grown hg17 (fun hk => by have := (unhide X_118).blk _ hk; omega))
   clear A_114
   have Av_126 := hide ((unhide Av_115).grown hg17 (fun hk => by have := (unhide X_118).blk _ hk; omega))
   clear Av_115
   have W_127 := hide ((unhide W_116).grown hg17 (fun k hk => by have := (unhide X_118).blk k hk; omega))
   clear W_116
   have bW_128 := hide ((unhide bW_117).grown hg17 (fun hk => by have := (unhide X_118).blk _ hk; omega))
   clear bW_117
   have bX_129 := hide ((unhide bX_119).grown hg17 (fun hk => by have := (unhide X_118).blk _ hk; omega))
   clear bX_119
   have Y_130 := hide ((unhide Y_120).grown hg17 (fun k hk => by have := (unhide X_118).blk k hk; omega))
   clear Y_120
   have bY_131 := hide ((unhide bY_121).grown hg17 (fun hk => by have := (unhide X_118).blk _ hk; omega))
   clear bY_121
   have G_132 := hide ((unhide G_122).grown hg17 (fun k hk => by have := (unhide X_118).blk k hk; omega))
   clear G_122
   have bG_133 := hide ((unhide bG_123).grown hg17 (fun hk => by have := (unhide X_118).blk _ hk; omega))
   clear bG_123
   have X_m17 := hide h17
   clear h17 hg17 X_118
   clear X_m17
   clear bX_129
   have kbY := (unhide bY_131).S
   go_wp2_with fail
   refine (markVw nbv frv vwv vhv fuv _ nv _ _ _ kx (ky : Int) HKY _ (unhide HKB).1 (unhide HKB).2.1 _ (unhide Y_130)).mono ?_
   rintro e w18 ⟨rfl, h18, hg18⟩
   clear kbY
   have B_134 := hide (Below.markedZ (unhide B_124) (unhide B_124).size (unhide Y_130) (by omega) hg18)
   clear B_124
   have A_135 := hide ((unhide A_125).grown hg18 (fun hk => by have := (unhide Y_130).blk _ hk; omega))
   clear A_125
   have Av_136 := hide ((unhide Av_126).grown hg18 (fun hk => by have := (unhide Y_130).blk _ hk; omega))
   clear Av_126
   have W_137 := hide ((unhide W_127).grown hg18 (fun k hk => by have := (unhide Y_130).blk k hk; omega))
   clear W_127
   have bW_138 := hide ((unhide bW_128).grown hg18 (fun hk => by have := (unhide Y_130).blk _ hk; omega))
   clear bW_128
   have bY_139 := hide ((unhide bY_131).grown hg18 (fun hk => by have := (unhide Y_130).blk _ hk; omega))
   clear bY_131
   have G_140 := hide ((unhide G_132).grown hg18 (fun k hk => by have := (unhide Y_130).blk k hk; omega))
   clear G_132
   have bG_141 := hide ((unhide bG_133).grown hg18 (fun hk => by have := (unhide Y_130).blk _ hk; omega))
   clear bG_133
   have Y_m18 := hide h18
   clear h18 hg18 Y_130
   clear Y_m18
   clear bY_139
   have kbG := (unhide bG_141).S
   have kbW := (unhide bW_138).S
   go_wp2_with fail
   refine (eqMr nb2 vw2 vh2 aG aW cG cW nL L HNL (Nat.le_trans (unhide HN10) (by decide)) _ (unhide G_140).rowV (unhide W_137).rowV).mono ?_
   rintro e w19 ⟨rfl, hb19⟩
   clear kbG kbW
   have B_142 := hide ((unhide B_134).trans (hb19.mono (unhide B_134).size))
   clear B_134
   have A_143 := hide ((unhide A_135).below hb19)
   clear A_135
   have Av_144 := hide ((unhide Av_136).below hb19)
   clear Av_136
   have W_145 := hide ((unhide W_137).below hb19 (unhide W_137).le)
   clear W_137
   have bW_146 := hide ((unhide bW_138).below hb19)
   clear bW_138
   have G_147 := hide ((unhide G_140).below hb19 (unhide G_140).le)
   clear G_140
   have bG_148 := hide ((unhide bG_141).below hb19)
   clear bG_141
   clear hb19
   have kbG := (unhide bG_148).S
   go_wp2_with fail
   refine (markMr nb2 vw2 vh2 _ nL _ _ _ 1 q HQ _ (by decide) (by decide) (by have := unhide HN10; omega) _ (unhide G_147)).mono ?_
   rintro e w20 ⟨rfl, h20, hg20⟩
   clear kbG
   have B_149 := hide (Below.marked (unhide B_142) (unhide B_142).size (unhide G_147) (by omega) hg20)
   clear B_142
   have A_150 := hide ((unhide A_143).grown hg20 (fun hk => by have := (unhide G_147).blk _ hk; omega))
   clear A_143
   have Av_151 := hide ((unhide Av_144).grown hg20 (fun hk => by have := (unhide G_147).blk _ hk; omega))
   clear Av_144
   have W_152 := hide ((unhide W_145).grown hg20 (fun k hk => by have := (unhide G_147).blk k hk; omega))
   clear W_145
   have bW_153 := hide ((unhide bW_146).grown hg20 (fun hk => by have := (unhide G_147).blk _ hk; omega))
   clear bW_146
   have bG_154 := hide ((unhide bG_148).grown hg20 (fun hk => by have := (unhide G_147).blk _ hk; omega))
   clear bG_148
   have G_m20 := hide h20
   clear h20 hg20 G_147
   have kbG := (unhide bG_154).S
   go_wp2_with fail
   refine (heldMr nb2 vw2 vh2 _ nL _ _ _ 1 q HQ (by decide) (by decide) (by have := unhide HN10; omega) _ (unhide G_m20)).mono ?_
   rintro e w21 ⟨rfl, hb21⟩
   clear kbG
   have B_155 := hide ((unhide B_149).trans (hb21.mono (unhide B_149).size))
   clear B_149
   have A_156 := hide ((unhide A_150).below hb21)
   clear A_150
   have Av_157 := hide ((unhide Av_151).below hb21)
   clear Av_151
   have W_158 := hide ((unhide W_152).below hb21 (unhide W_152).le)
   clear W_152
   have bW_159 := hide ((unhide bW_153).below hb21)
   clear bW_153
   have bG_160 := hide ((unhide bG_154).below hb21)
   clear bG_154
   have G_161 := hide ((unhide G_m20).below hb21 (unhide G_m20).le)
   clear G_m20
   clear hb21
   go_wp2_with fail
   have zG22 : w11.heap.size < w21.heap.size := (unhide bG_160).lt
   have zW22 : PW < w21.heap.size := (unhide bW_159).lt
   refine wp_region_held_drew (S := (fun w' => (∀ o, w'.cell? ⟨w.heap.size, o, none⟩ = (#[.int .i64 nb, .int .i64 vw, .int .i64 vh, .slice a n cap] : Array Value)[o]?) ∧ (∀ o, w'.cell? ⟨(w.heap.size + 1), o, none⟩ = (#[.int .i64 nbv, .int .i64 frv, .bool fuv, .int .i64 vwv, .int .i64 vhv, .slice av nv capv] : Array Value)[o]?))) (by kernel_rfl) ⟨(unhide A_156).S, (unhide Av_157).S⟩ (fun hHeld => ?_)
   have B_162 := hide ((unhide B_155).drew)
   clear B_155
   have A_163 := hide ((unhide A_156).drew)
   clear A_156
   have Av_164 := hide ((unhide Av_157).drew)
   clear Av_157
   have W_165 := hide ((unhide W_158).below (Below.refl _ _).drew (unhide W_158).le)
   clear W_158
   have bW_166 := hide ((unhide bW_159).drew)
   clear bW_159
   have bG_167 := hide ((unhide bG_160).drew)
   clear bG_160
   have G_168 := hide ((unhide G_161).below (Below.refl _ _).drew (unhide G_161).le)
   clear G_161
   generalize w21.drew = w23 at B_162 A_163 Av_164 W_165 bW_166 bG_167 G_168 hHeld ⊢
   refine wtk (i := 0) (oi := oAvw9) (v := ?_) rfl (Or.inl ⟨by rfl, ?_⟩) (by assumption) ?_
   rotate_left 1
   · (intro w' hSw; (try dsimp only at hSw); go_simp; try with_reducible rfl)
   try simp only [Act.put, qqA, qqB, qqC]
   refine wtk (i := 2) (oi := oAvw10) (v := ?_) rfl (Or.inl ⟨by rfl, ?_⟩) (by assumption) ?_
   rotate_left 1
   · (intro w' hSw; (try dsimp only at hSw); go_simp; try with_reducible rfl)
   try simp only [Act.put, qqA, qqB, qqC]
   refine wpAnyH_ready (rs := [1, 8]) (by kernel_rfl) (by simp) ?_
   refine AllReadyH.cons (o := oAvw11) rfl (fun K hK => ?_) (AllReadyH.cons (o := oAvw12) rfl (fun K hK => ?_) AllReadyH.nil)
   ·
    go_simp
    refine (toMr nb vw vh a cap n l HN (unhide HL) _ ((unhide HR).below (unhide B_162))).mono ?_
    rintro e w24 ⟨g24, rfl, o24, hb24⟩
    have zc24 := hb24.size
    have B_169 := hide ((unhide B_162).trans (hb24.mono (unhide B_162).size))
    clear B_162
    have A_170 := hide ((unhide A_163).below hb24)
    clear A_163
    have Av_171 := hide ((unhide Av_164).below hb24)
    clear Av_164
    have W_172 := hide ((unhide W_165).below hb24 (unhide W_165).le)
    clear W_165
    have bW_173 := hide ((unhide bW_166).below hb24)
    clear bW_166
    have bG_174 := hide ((unhide bG_167).below hb24)
    clear bG_167
    have G_175 := hide ((unhide G_168).below hb24 (unhide G_168).le)
    clear G_168
    clear hb24
    have HT1_176 := hide (held_of o24)
    clear o24
    go_wp2_with fail
    refine hK.out _ _ ?_ (fun hHeldH1 => ?_)
    · exact ⟨(unhide A_170).S, (unhide Av_171).S⟩
    clear hK K
    try simp only [Act.put, qqA, qqB, qqC]
    refine wpAnyH_ready (rs := [3, 8]) (by kernel_rfl) (by simp) ?_
    refine AllReadyH.cons (o := oAvw13) rfl (fun K hK => ?_) (AllReadyH.cons (o := oAvw12) rfl (fun K hK => ?_) AllReadyH.nil)
    ·
     go_simp
     refine (toVw nbv frv vwv vhv fuv av capv nv lv HNv (unhide HLv) _ ((unhide HRv).below (unhide B_169))).mono ?_
     rintro e w25 ⟨g25, rfl, o25, hb25⟩
     have zc25 := hb25.size
     have B_177 := hide ((unhide B_169).trans (hb25.mono (unhide B_169).size))
     clear B_169
     have A_178 := hide ((unhide A_170).below hb25)
     clear A_170
     have Av_179 := hide ((unhide Av_171).below hb25)
     clear Av_171
     have W_180 := hide ((unhide W_172).below hb25 (unhide W_172).le)
     clear W_172
     have bW_181 := hide ((unhide bW_173).below hb25)
     clear bW_173
     have bG_182 := hide ((unhide bG_174).below hb25)
     clear bG_174
     have G_183 := hide ((unhide G_175).below hb25 (unhide G_175).le)
     clear G_175
     have HT1_184 := hide ((unhide HT1_176).below hb25 (unhide HT1_176).le)
     clear HT1_176
     clear hb25
     have HT3_185 := hide (heldZ_of o25)
     clear o25
     go_wp2_with fail
     refine hK.out _ _ ?_ (fun hHeldH3 => ?_)
     · exact ⟨(unhide A_178).S, (unhide Av_179).S⟩
     clear hK K
     try simp only [Act.put, qqA, qqB, qqC]
     refine wpAnyH_ready (rs := [4, 8]) (by kernel_rfl) (by simp) ?_
     refine AllReadyH.cons (o := oAvw14) rfl (fun K hK => ?_) (AllReadyH.cons (o := oAvw12) rfl (fun K hK => ?_) AllReadyH.nil)
     ·
      go_simp
      refine (iaccept nb vw vh _ _ n l HN (unhide HL) HSZ nbv frv fuv vwv vhv _ _ nv lv HNv (unhide HLv) HSZv nb2 vw2 vh2 L c HIS _ (unhide HT1_184).rowV (unhide HT3_185).rowV).mono ?_
      rintro e w26 ⟨vH, rfl, hoH, hb26⟩
      have zc26 := hb26.size
      have B_186 := hide ((unhide B_177).trans (hb26.mono (unhide B_177).size))
      clear B_177
      have A_187 := hide ((unhide A_178).below hb26)
      clear A_178
      have Av_188 := hide ((unhide Av_179).below hb26)
      clear Av_179
      have W_189 := hide ((unhide W_180).below hb26 (unhide W_180).le)
      clear W_180
      have bW_190 := hide ((unhide bW_181).below hb26)
      clear bW_181
      have bG_191 := hide ((unhide bG_182).below hb26)
      clear bG_182
      have G_192 := hide ((unhide G_183).below hb26 (unhide G_183).le)
      clear G_183
      have HT1_193 := hide ((unhide HT1_184).below hb26 (unhide HT1_184).le)
      clear HT1_184
      have HT3_194 := hide ((unhide HT3_185).below hb26 (unhide HT3_185).le)
      clear HT3_185
      clear hb26
      clear HT1_193
      clear HT3_194
      obtain ⟨aH, cH, rfl, -⟩ := own_rowV hoH
      rw [unhide HNL] at hoH
      rw [unhide HNL]
      obtain ⟨loH, hiH, eloH, ehiH⟩ : ∃ lo hi, lo = w25.heap.size ∧ hi = w26.heap.size := ⟨_, _, rfl, rfl⟩
      have H_195 := hide (held_of hoH)
      rw [← eloH, ← ehiH] at H_195
      clear hoH eloH ehiH
      go_wp2_with fail
      refine hK.out _ _ ?_ (fun hHeldH4 => ?_)
      · exact ⟨(unhide A_187).S, (unhide Av_188).S⟩
      clear hK K
      try simp only [Act.put, qqA, qqB, qqC]
      refine wtk (i := 5) (oi := oAvw15) (v := ?_) rfl (Or.inl ⟨by rfl, ?_⟩) (by assumption) ?_
      rotate_left 1
      · (intro w' hSw; (try dsimp only at hSw); go_simp; try with_reducible rfl)
      try simp only [Act.put, qqA, qqB, qqC]
      refine wtk (i := 6) (oi := oAvw16) (v := ?_) rfl (Or.inl ⟨by rfl, ?_⟩) (by assumption) ?_
      rotate_left 1
      · (intro w' hSw; (try dsimp only at hSw); go_simp; try with_reducible rfl)
      try simp only [Act.put, qqA, qqB, qqC]
      refine wtk (i := 7) (oi := oAvw17) (v := ?_) rfl (Or.inl ⟨by rfl, ?_⟩) (by assumption) ?_
      rotate_left 1
      · (intro w' hSw; (try dsimp only at hSw); go_simp; try with_reducible rfl)
      try simp only [Act.put, qqA, qqB, qqC]
      refine wpAnyH_ready (rs := [8]) (by kernel_rfl) (by simp) ?_
      refine AllReadyH.cons (o := oAvw12) rfl (fun K hK => ?_) AllReadyH.nil
      obtain ⟨PH, hP⟩ : ∃ P, P = w26.heap.size := ⟨_, rfl⟩
      have zPH : w.heap.size + 1 < PH := by rw [hP]; exact (unhide Av_188).lt
      have zPHG : w11.heap.size ≤ PH := by rw [hP]; exact (unhide G_192).le
      have zPHH : hiH ≤ PH := by rw [hP]; exact (unhide H_195).le
      have zPHbW : PW < PH := by rw [hP]; exact (unhide bW_190).lt
      have zPHbG : w11.heap.size < PH := by rw [hP]; exact (unhide bG_191).lt
      have B_196 := hide ((unhide B_186).alloc (unhide B_186).size (.cells #[.int .i64 0, .int .i64 0, .int .i64 0, .slice none 0 0] 30))
      clear B_186
      have A_197 := hide ((unhide A_187).alloc (.cells #[.int .i64 0, .int .i64 0, .int .i64 0, .slice none 0 0] 30))
      clear A_187
      have Av_198 := hide ((unhide Av_188).alloc (.cells #[.int .i64 0, .int .i64 0, .int .i64 0, .slice none 0 0] 30))
      clear Av_188
      have W_199 := hide ((unhide W_189).below (Go.Joins.below_alloc1 _ (.cells #[.int .i64 0, .int .i64 0, .int .i64 0, .slice none 0 0] 30)) (unhide W_189).le)
      clear W_189
      have bW_200 := hide ((unhide bW_190).alloc (.cells #[.int .i64 0, .int .i64 0, .int .i64 0, .slice none 0 0] 30))
      clear bW_190
      have bG_201 := hide ((unhide bG_191).alloc (.cells #[.int .i64 0, .int .i64 0, .int .i64 0, .slice none 0 0] 30))
      clear bG_191
      have G_202 := hide ((unhide G_192).below (Go.Joins.below_alloc1 _ (.cells #[.int .i64 0, .int .i64 0, .int .i64 0, .slice none 0 0] 30)) (unhide G_192).le)
      clear G_192
      have H_203 := hide ((unhide H_195).below (Go.Joins.below_alloc1 _ (.cells #[.int .i64 0, .int .i64 0, .int .i64 0, .slice none 0 0] 30)) (unhide H_195).le)
      clear H_195
      have bH_204 := hide (BF.new w26 #[.int .i64 0, .int .i64 0, .int .i64 0, .slice none 0 0] 30)
      rw [← hP] at bH_204
      go_simp
      refine hK.out _ _ ?_ (fun hHeldHA => ?_)
      · exact ⟨(unhide A_197).S, (unhide Av_198).S⟩
      clear hK K
      try simp only [Act.put, qqA, qqB, qqC]
      rw [← hP]
      clear hP
      generalize w26.alloc (.cells #[.int .i64 0, .int .i64 0, .int .i64 0, .slice none 0 0] 30) = w27 at B_196 A_197 Av_198 W_199 bW_200 bG_201 G_202 H_203 bH_204 hHeldHA ⊢
      refine wpAnyH_ready (rs := [9]) (by kernel_rfl) (by simp) ?_
      refine AllReadyH.cons (o := oAvw18) rfl (fun K hK => ?_) AllReadyH.nil
      have kn := (unhide bH_204).S
      have knf := (unhide bH_204).F
      obtain ⟨w28, hw28, hF28, hg28⟩ := put4G w27 (unhide bH_204) (.int .i64 nb2) (.int .i64 vw2) (.int .i64 vh2) (.slice aH nL cH)
      have hne28 : ∀ q, q ≠ PH → (some PH : Option Nat) ≠ some q := fun q h e => h (Option.some.inj e).symm
      have B_205 := hide ((unhide B_196).grown hg28 (unhide B_196).size (fun k hk => by have e : PH = k := Option.some.inj hk; omega))
      clear B_196
      have A_206 := hide ((unhide A_197).grown hg28 (hne28 _ (by omega)))
      clear A_197
      have Av_207 := hide ((unhide Av_198).grown hg28 (hne28 _ (by omega)))
      clear Av_198
      have W_208 := hide ((unhide W_199).grown hg28 (fun k hk => by have e : PH = k := Option.some.inj hk; omega))
      clear W_199
      have bW_209 := hide ((unhide bW_200).grown hg28 (hne28 _ (by omega)))
      clear bW_200
      have bG_210 := hide ((unhide bG_201).grown hg28 (hne28 _ (by omega)))
      clear bG_201
      have G_211 := hide ((unhide G_202).grown hg28 (fun k hk => by have e : PH = k := Option.some.inj hk; omega))
      clear G_202
      have H_212 := hide ((unhide H_203).grown hg28 (fun k hk => by have e : PH = k := Option.some.inj hk; omega))
      clear H_203
      have bH_213 := hide (hF28)
      clear bH_204
      go_simp
      rw [← hw28]
      refine hK.out _ _ ?_ (fun hHeldHS => ?_)
      · exact ⟨(unhide A_206).S, (unhide Av_207).S⟩
      clear hK K
      try simp only [Act.put, qqA, qqB, qqC]
      clear kn knf hw28 hF28 hg28 hne28
      refine wtk (i := 10) (oi := oAvw19) (v := ?_) rfl (Or.inl ⟨by rfl, ?_⟩) (by assumption) ?_
      rotate_left 1
      · (intro w' hSw; (try dsimp only at hSw); go_simp; try with_reducible rfl)
      try simp only [Act.put, qqA, qqB, qqC]
      refine wpAnyH_done (by kernel_rfl) ?_ _
      have zEH : PH < w28.heap.size := (unhide bH_213).lt
      have zHH : hiH ≤ w28.heap.size := (unhide H_212).le
      have kbH := (unhide bH_213).S
      have kbW := (unhide bW_209).S
      go_wp2_with fail
      refine (eqMr nb2 vw2 vh2 aH aW cH cW nL L HNL (Nat.le_trans (unhide HN10) (by decide)) _ (unhide H_212).rowV (unhide W_208).rowV).mono ?_
      rintro e w29 ⟨rfl, hb29⟩
      clear kbH kbW
      have B_214 := hide ((unhide B_205).trans (hb29.mono (unhide B_205).size))
      clear B_205
      have A_215 := hide ((unhide A_206).below hb29)
      clear A_206
      have Av_216 := hide ((unhide Av_207).below hb29)
      clear Av_207
      have W_217 := hide ((unhide W_208).below hb29 (unhide W_208).le)
      clear W_208
      have bW_218 := hide ((unhide bW_209).below hb29)
      clear bW_209
      have bG_219 := hide ((unhide bG_210).below hb29)
      clear bG_210
      have G_220 := hide ((unhide G_211).below hb29 (unhide G_211).le)
      clear G_211
      have H_221 := hide ((unhide H_212).below hb29 (unhide H_212).le)
      clear H_212
      have bH_222 := hide ((unhide bH_213).below hb29)
      clear bH_213
      clear hb29
      have kbG := (unhide bG_219).S
      go_wp2_with fail
      refine (heldMr nb2 vw2 vh2 _ nL _ _ _ 1 q HQ (by decide) (by decide) (by have := unhide HN10; omega) _ (unhide G_220)).mono ?_
      rintro e w30 ⟨rfl, hb30⟩
      clear kbG
      have B_223 := hide ((unhide B_214).trans (hb30.mono (unhide B_214).size))
      clear B_214
      have A_224 := hide ((unhide A_215).below hb30)
      clear A_215
      have Av_225 := hide ((unhide Av_216).below hb30)
      clear Av_216
      have W_226 := hide ((unhide W_217).below hb30 (unhide W_217).le)
      clear W_217
      have bW_227 := hide ((unhide bW_218).below hb30)
      clear bW_218
      have bG_228 := hide ((unhide bG_219).below hb30)
      clear bG_219
      have G_229 := hide ((unhide G_220).below hb30 (unhide G_220).le)
      clear G_220
      have H_230 := hide ((unhide H_221).below hb30 (unhide H_221).le)
      clear H_221
      have bH_231 := hide ((unhide bH_222).below hb30)
      clear bH_222
      clear hb30
      go_wp2_with fail
      go_ret
      exact ⟨rfl, (unhide B_223)⟩
     ·
      obtain ⟨PH, hP⟩ : ∃ P, P = w25.heap.size := ⟨_, rfl⟩
      have zPH : w.heap.size + 1 < PH := by rw [hP]; exact (unhide Av_179).lt
      have zPHG : w11.heap.size ≤ PH := by rw [hP]; exact (unhide G_183).le
      have zPHbW : PW < PH := by rw [hP]; exact (unhide bW_181).lt
      have zPHbG : w11.heap.size < PH := by rw [hP]; exact (unhide bG_182).lt
      have B_186 := hide ((unhide B_177).alloc (unhide B_177).size (.cells #[.int .i64 0, .int .i64 0, .int .i64 0, .slice none 0 0] 30))
      clear B_177
      have A_187 := hide ((unhide A_178).alloc (.cells #[.int .i64 0, .int .i64 0, .int .i64 0, .slice none 0 0] 30))
      clear A_178
      have Av_188 := hide ((unhide Av_179).alloc (.cells #[.int .i64 0, .int .i64 0, .int .i64 0, .slice none 0 0] 30))
      clear Av_179
      have W_189 := hide ((unhide W_180).below (Go.Joins.below_alloc1 _ (.cells #[.int .i64 0, .int .i64 0, .int .i64 0, .slice none 0 0] 30)) (unhide W_180).le)
      clear W_180
      have bW_190 := hide ((unhide bW_181).alloc (.cells #[.int .i64 0, .int .i64 0, .int .i64 0, .slice none 0 0] 30))
      clear bW_181
      have bG_191 := hide ((unhide bG_182).alloc (.cells #[.int .i64 0, .int .i64 0, .int .i64 0, .slice none 0 0] 30))
      clear bG_182
      have G_192 := hide ((unhide G_183).below (Go.Joins.below_alloc1 _ (.cells #[.int .i64 0, .int .i64 0, .int .i64 0, .slice none 0 0] 30)) (unhide G_183).le)
      clear G_183
      have HT1_193 := hide ((unhide HT1_184).below (Go.Joins.below_alloc1 _ (.cells #[.int .i64 0, .int .i64 0, .int .i64 0, .slice none 0 0] 30)) (unhide HT1_184).le)
      clear HT1_184
      have HT3_194 := hide ((unhide HT3_185).below (Go.Joins.below_alloc1 _ (.cells #[.int .i64 0, .int .i64 0, .int .i64 0, .slice none 0 0] 30)) (unhide HT3_185).le)
      clear HT3_185
      have bH_195 := hide (BF.new w25 #[.int .i64 0, .int .i64 0, .int .i64 0, .slice none 0 0] 30)
      rw [← hP] at bH_195
      go_simp
      refine hK.out _ _ ?_ (fun hHeldHA => ?_)
      · exact ⟨(unhide A_187).S, (unhide Av_188).S⟩
      clear hK K
      try simp only [Act.put, qqA, qqB, qqC]
      rw [← hP]
      clear hP
      generalize w25.alloc (.cells #[.int .i64 0, .int .i64 0, .int .i64 0, .slice none 0 0] 30) = w26 at B_186 A_187 Av_188 W_189 bW_190 bG_191 G_192 HT1_193 HT3_194 bH_195 hHeldHA ⊢
      refine wpAnyH_ready (rs := [4]) (by kernel_rfl) (by simp) ?_
      refine AllReadyH.cons (o := oAvw14) rfl (fun K hK => ?_) AllReadyH.nil
      have HPLH : Hid (PH < w26.heap.size) := (unhide bH_195).lt
      go_simp
      refine (iaccept nb vw vh _ _ n l HN (unhide HL) HSZ nbv frv fuv vwv vhv _ _ nv lv HNv (unhide HLv) HSZv nb2 vw2 vh2 L c HIS _ (unhide HT1_193).rowV (unhide HT3_194).rowV).mono ?_
      rintro e w27 ⟨vH, rfl, hoH, hb27⟩
      have zc27 := hb27.size
      have B_196 := hide ((unhide B_186).trans (hb27.mono (unhide B_186).size))
      clear B_186
      have A_197 := hide ((unhide A_187).below hb27)
      clear A_187
      have Av_198 := hide ((unhide Av_188).below hb27)
      clear Av_188
      have W_199 := hide ((unhide W_189).below hb27 (unhide W_189).le)
      clear W_189
      have bW_200 := hide ((unhide bW_190).below hb27)
      clear bW_190
      have bG_201 := hide ((unhide bG_191).below hb27)
      clear bG_191
      have G_202 := hide ((unhide G_192).below hb27 (unhide G_192).le)
      clear G_192
      have HT1_203 := hide ((unhide HT1_193).below hb27 (unhide HT1_193).le)
      clear HT1_193
      have HT3_204 := hide ((unhide HT3_194).below hb27 (unhide HT3_194).le)
      clear HT3_194
      have bH_205 := hide ((unhide bH_195).below hb27)
      clear bH_195
      clear hb27
      clear HT1_203
      clear HT3_204
      obtain ⟨aH, cH, rfl, -⟩ := own_rowV hoH
      rw [unhide HNL] at hoH
      rw [unhide HNL]
      obtain ⟨loH, hiH, eloH, ehiH⟩ : ∃ lo hi, lo = w26.heap.size ∧ hi = w27.heap.size := ⟨_, _, rfl, rfl⟩
      have H_206 := hide (held_of hoH)
      rw [← eloH, ← ehiH] at H_206
      have zPHr : PH < loH := by rw [eloH]; exact unhide HPLH
      clear hoH eloH ehiH
      go_wp2_with fail
      refine hK.out _ _ ?_ (fun hHeldH4 => ?_)
      · exact ⟨(unhide A_197).S, (unhide Av_198).S⟩
      clear hK K
      try simp only [Act.put, qqA, qqB, qqC]
      refine wtk (i := 5) (oi := oAvw15) (v := ?_) rfl (Or.inl ⟨by rfl, ?_⟩) (by assumption) ?_
      rotate_left 1
      · (intro w' hSw; (try dsimp only at hSw); go_simp; try with_reducible rfl)
      try simp only [Act.put, qqA, qqB, qqC]
      refine wtk (i := 6) (oi := oAvw16) (v := ?_) rfl (Or.inl ⟨by rfl, ?_⟩) (by assumption) ?_
      rotate_left 1
      · (intro w' hSw; (try dsimp only at hSw); go_simp; try with_reducible rfl)
      try simp only [Act.put, qqA, qqB, qqC]
      refine wtk (i := 7) (oi := oAvw17) (v := ?_) rfl (Or.inl ⟨by rfl, ?_⟩) (by assumption) ?_
      rotate_left 1
      · (intro w' hSw; (try dsimp only at hSw); go_simp; try with_reducible rfl)
      try simp only [Act.put, qqA, qqB, qqC]
      refine wpAnyH_ready (rs := [9]) (by kernel_rfl) (by simp) ?_
      refine AllReadyH.cons (o := oAvw18) rfl (fun K hK => ?_) AllReadyH.nil
      have kn := (unhide bH_205).S
      have knf := (unhide bH_205).F
      obtain ⟨w28, hw28, hF28, hg28⟩ := put4G w27 (unhide bH_205) (.int .i64 nb2) (.int .i64 vw2) (.int .i64 vh2) (.slice aH nL cH)
      have hne28 : ∀ q, q ≠ PH → (some PH : Option Nat) ≠ some q := fun q h e => h (Option.some.inj e).symm
      have B_207 := hide ((unhide B_196).grown hg28 (unhide B_196).size (fun k hk => by have e : PH = k := Option.some.inj hk; omega))
      clear B_196
      have A_208 := hide ((unhide A_197).grown hg28 (hne28 _ (by omega)))
      clear A_197
      have Av_209 := hide ((unhide Av_198).grown hg28 (hne28 _ (by omega)))
      clear Av_198
      have W_210 := hide ((unhide W_199).grown hg28 (fun k hk => by have e : PH = k := Option.some.inj hk; omega))
      clear W_199
      have bW_211 := hide ((unhide bW_200).grown hg28 (hne28 _ (by omega)))
      clear bW_200
      have bG_212 := hide ((unhide bG_201).grown hg28 (hne28 _ (by omega)))
      clear bG_201
      have G_213 := hide ((unhide G_202).grown hg28 (fun k hk => by have e : PH = k := Option.some.inj hk; omega))
      clear G_202
      have H_214 := hide ((unhide H_206).grown hg28 (fun k hk => by have e : PH = k := Option.some.inj hk; omega))
      clear H_206
      have bH_215 := hide (hF28)
      clear bH_205
      go_simp
      rw [← hw28]
      refine hK.out _ _ ?_ (fun hHeldHS => ?_)
      · exact ⟨(unhide A_208).S, (unhide Av_209).S⟩
      clear hK K
      try simp only [Act.put, qqA, qqB, qqC]
      clear kn knf hw28 hF28 hg28 hne28
      refine wtk (i := 10) (oi := oAvw19) (v := ?_) rfl (Or.inl ⟨by rfl, ?_⟩) (by assumption) ?_
      rotate_left 1
      · (intro w' hSw; (try dsimp only at hSw); go_simp; try with_reducible rfl)
      try simp only [Act.put, qqA, qqB, qqC]
      refine wpAnyH_done (by kernel_rfl) ?_ _
      have zEH : PH < w28.heap.size := (unhide bH_215).lt
      have zHH : hiH ≤ w28.heap.size := (unhide H_214).le
      have kbH := (unhide bH_215).S
      have kbW := (unhide bW_211).S
      go_wp2_with fail
      refine (eqMr nb2 vw2 vh2 aH aW cH cW nL L HNL (Nat.le_trans (unhide HN10) (by decide)) _ (unhide H_214).rowV (unhide W_210).rowV).mono ?_
      rintro e w29 ⟨rfl, hb29⟩
      clear kbH kbW
      have B_216 := hide ((unhide B_207).trans (hb29.mono (unhide B_207).size))
      clear B_207
      have A_217 := hide ((unhide A_208).below hb29)
      clear A_208
      have Av_218 := hide ((unhide Av_209).below hb29)
      clear Av_209
      have W_219 := hide ((unhide W_210).below hb29 (unhide W_210).le)
      clear W_210
      have bW_220 := hide ((unhide bW_211).below hb29)
      clear bW_211
      have bG_221 := hide ((unhide bG_212).below hb29)
      clear bG_212
      have G_222 := hide ((unhide G_213).below hb29 (unhide G_213).le)
      clear G_213
      have H_223 := hide ((unhide H_214).below hb29 (unhide H_214).le)
      clear H_214
      have bH_224 := hide ((unhide bH_215).below hb29)
      clear bH_215
      clear hb29
      have kbG := (unhide bG_221).S
      go_wp2_with fail
      refine (heldMr nb2 vw2 vh2 _ nL _ _ _ 1 q HQ (by decide) (by decide) (by have := unhide HN10; omega) _ (unhide G_222)).mono ?_
      rintro e w30 ⟨rfl, hb30⟩
      clear kbG
      have B_225 := hide ((unhide B_216).trans (hb30.mono (unhide B_216).size))
      clear B_216
      have A_226 := hide ((unhide A_217).below hb30)
      clear A_217
      have Av_227 := hide ((unhide Av_218).below hb30)
      clear Av_218
      have W_228 := hide ((unhide W_219).below hb30 (unhide W_219).le)
      clear W_219
      have bW_229 := hide ((unhide bW_220).below hb30)
      clear bW_220
      have bG_230 := hide ((unhide bG_221).below hb30)
      clear bG_221
      have G_231 := hide ((unhide G_222).below hb30 (unhide G_222).le)
      clear G_222
      have H_232 := hide ((unhide H_223).below hb30 (unhide H_223).le)
      clear H_223
      have bH_233 := hide ((unhide bH_224).below hb30)
      clear bH_224
      clear hb30
      go_wp2_with fail
      go_ret
      exact ⟨rfl, (unhide B_225)⟩
    ·
     obtain ⟨PH, hP⟩ : ∃ P, P = w24.heap.size := ⟨_, rfl⟩
     have zPH : w.heap.size + 1 < PH := by rw [hP]; exact (unhide Av_171).lt
     have zPHG : w11.heap.size ≤ PH := by rw [hP]; exact (unhide G_175).le
     have zPHbW : PW < PH := by rw [hP]; exact (unhide bW_173).lt
     have zPHbG : w11.heap.size < PH := by rw [hP]; exact (unhide bG_174).lt
     have B_177 := hide ((unhide B_169).alloc (unhide B_169).size (.cells #[.int .i64 0, .int .i64 0, .int .i64 0, .slice none 0 0] 30))
     clear B_169
     have A_178 := hide ((unhide A_170).alloc (.cells #[.int .i64 0, .int .i64 0, .int .i64 0, .slice none 0 0] 30))
     clear A_170
     have Av_179 := hide ((unhide Av_171).alloc (.cells #[.int .i64 0, .int .i64 0, .int .i64 0, .slice none 0 0] 30))
     clear Av_171
     have W_180 := hide ((unhide W_172).below (Go.Joins.below_alloc1 _ (.cells #[.int .i64 0, .int .i64 0, .int .i64 0, .slice none 0 0] 30)) (unhide W_172).le)
     clear W_172
     have bW_181 := hide ((unhide bW_173).alloc (.cells #[.int .i64 0, .int .i64 0, .int .i64 0, .slice none 0 0] 30))
     clear bW_173
     have bG_182 := hide ((unhide bG_174).alloc (.cells #[.int .i64 0, .int .i64 0, .int .i64 0, .slice none 0 0] 30))
     clear bG_174
     have G_183 := hide ((unhide G_175).below (Go.Joins.below_alloc1 _ (.cells #[.int .i64 0, .int .i64 0, .int .i64 0, .slice none 0 0] 30)) (unhide G_175).le)
     clear G_175
     have HT1_184 := hide ((unhide HT1_176).below (Go.Joins.below_alloc1 _ (.cells #[.int .i64 0, .int .i64 0, .int .i64 0, .slice none 0 0] 30)) (unhide HT1_176).le)
     clear HT1_176
     have bH_185 := hide (BF.new w24 #[.int .i64 0, .int .i64 0, .int .i64 0, .slice none 0 0] 30)
     rw [← hP] at bH_185
     go_simp
     refine hK.out _ _ ?_ (fun hHeldHA => ?_)
     · exact ⟨(unhide A_178).S, (unhide Av_179).S⟩
     clear hK K
     try simp only [Act.put, qqA, qqB, qqC]
     rw [← hP]
     clear hP
     generalize w24.alloc (.cells #[.int .i64 0, .int .i64 0, .int .i64 0, .slice none 0 0] 30) = w25 at B_177 A_178 Av_179 W_180 bW_181 bG_182 G_183 HT1_184 bH_185 hHeldHA ⊢
     refine wpAnyH_ready (rs := [3]) (by kernel_rfl) (by simp) ?_
     refine AllReadyH.cons (o := oAvw13) rfl (fun K hK => ?_) AllReadyH.nil
     go_simp
     refine (toVw nbv frv vwv vhv fuv av capv nv lv HNv (unhide HLv) _ ((unhide HRv).below (unhide B_177))).mono ?_
     rintro e w26 ⟨g26, rfl, o26, hb26⟩
     have zc26 := hb26.size
     have B_186 := hide ((unhide B_177).trans (hb26.mono (unhide B_177).size))
     clear B_177
     have A_187 := hide ((unhide A_178).below hb26)
     clear A_178
     have Av_188 := hide ((unhide Av_179).below hb26)
     clear Av_179
     have W_189 := hide ((unhide W_180).below hb26 (unhide W_180).le)
     clear W_180
     have bW_190 := hide ((unhide bW_181).below hb26)
     clear bW_181
     have bG_191 := hide ((unhide bG_182).below hb26)
     clear bG_182
     have G_192 := hide ((unhide G_183).below hb26 (unhide G_183).le)
     clear G_183
     have HT1_193 := hide ((unhide HT1_184).below hb26 (unhide HT1_184).le)
     clear HT1_184
     have bH_194 := hide ((unhide bH_185).below hb26)
     clear bH_185
     clear hb26
     have HT3_195 := hide (heldZ_of o26)
     clear o26
     go_wp2_with fail
     refine hK.out _ _ ?_ (fun hHeldH3 => ?_)
     · exact ⟨(unhide A_187).S, (unhide Av_188).S⟩
     clear hK K
     try simp only [Act.put, qqA, qqB, qqC]
     refine wpAnyH_ready (rs := [4]) (by kernel_rfl) (by simp) ?_
     refine AllReadyH.cons (o := oAvw14) rfl (fun K hK => ?_) AllReadyH.nil
     have HPLH : Hid (PH < w26.heap.size) := (unhide bH_194).lt
     go_simp
     refine (iaccept nb vw vh _ _ n l HN (unhide HL) HSZ nbv frv fuv vwv vhv _ _ nv lv HNv (unhide HLv) HSZv nb2 vw2 vh2 L c HIS _ (unhide HT1_193).rowV (unhide HT3_195).rowV).mono ?_
     rintro e w27 ⟨vH, rfl, hoH, hb27⟩
     have zc27 := hb27.size
     have B_196 := hide ((unhide B_186).trans (hb27.mono (unhide B_186).size))
     clear B_186
     have A_197 := hide ((unhide A_187).below hb27)
     clear A_187
     have Av_198 := hide ((unhide Av_188).below hb27)
     clear Av_188
     have W_199 := hide ((unhide W_189).below hb27 (unhide W_189).le)
     clear W_189
     have bW_200 := hide ((unhide bW_190).below hb27)
     clear bW_190
     have bG_201 := hide ((unhide bG_191).below hb27)
     clear bG_191
     have G_202 := hide ((unhide G_192).below hb27 (unhide G_192).le)
     clear G_192
     have HT1_203 := hide ((unhide HT1_193).below hb27 (unhide HT1_193).le)
     clear HT1_193
     have bH_204 := hide ((unhide bH_194).below hb27)
     clear bH_194
     have HT3_205 := hide ((unhide HT3_195).below hb27 (unhide HT3_195).le)
     clear HT3_195
     clear hb27
     clear HT1_203
     clear HT3_205
     obtain ⟨aH, cH, rfl, -⟩ := own_rowV hoH
     rw [unhide HNL] at hoH
     rw [unhide HNL]
     obtain ⟨loH, hiH, eloH, ehiH⟩ : ∃ lo hi, lo = w26.heap.size ∧ hi = w27.heap.size := ⟨_, _, rfl, rfl⟩
     have H_206 := hide (held_of hoH)
     rw [← eloH, ← ehiH] at H_206
     have zPHr : PH < loH := by rw [eloH]; exact unhide HPLH
     clear hoH eloH ehiH
     go_wp2_with fail
     refine hK.out _ _ ?_ (fun hHeldH4 => ?_)
     · exact ⟨(unhide A_197).S, (unhide Av_198).S⟩
     clear hK K
     try simp only [Act.put, qqA, qqB, qqC]
     refine wtk (i := 5) (oi := oAvw15) (v := ?_) rfl (Or.inl ⟨by rfl, ?_⟩) (by assumption) ?_
     rotate_left 1
     · (intro w' hSw; (try dsimp only at hSw); go_simp; try with_reducible rfl)
     try simp only [Act.put, qqA, qqB, qqC]
     refine wtk (i := 6) (oi := oAvw16) (v := ?_) rfl (Or.inl ⟨by rfl, ?_⟩) (by assumption) ?_
     rotate_left 1
     · (intro w' hSw; (try dsimp only at hSw); go_simp; try with_reducible rfl)
     try simp only [Act.put, qqA, qqB, qqC]
     refine wtk (i := 7) (oi := oAvw17) (v := ?_) rfl (Or.inl ⟨by rfl, ?_⟩) (by assumption) ?_
     rotate_left 1
     · (intro w' hSw; (try dsimp only at hSw); go_simp; try with_reducible rfl)
     try simp only [Act.put, qqA, qqB, qqC]
     refine wpAnyH_ready (rs := [9]) (by kernel_rfl) (by simp) ?_
     refine AllReadyH.cons (o := oAvw18) rfl (fun K hK => ?_) AllReadyH.nil
     have kn := (unhide bH_204).S
     have knf := (unhide bH_204).F
     obtain ⟨w28, hw28, hF28, hg28⟩ := put4G w27 (unhide bH_204) (.int .i64 nb2) (.int .i64 vw2) (.int .i64 vh2) (.slice aH nL cH)
     have hne28 : ∀ q, q ≠ PH → (some PH : Option Nat) ≠ some q := fun q h e => h (Option.some.inj e).symm
     have B_207 := hide ((unhide B_196).grown hg28 (unhide B_196).size (fun k hk => by have e : PH = k := Option.some.inj hk; omega))
     clear B_196
     have A_208 := hide ((unhide A_197).grown hg28 (hne28 _ (by omega)))
     clear A_197
     have Av_209 := hide ((unhide Av_198).grown hg28 (hne28 _ (by omega)))
     clear Av_198
     have W_210 := hide ((unhide W_199).grown hg28 (fun k hk => by have e : PH = k := Option.some.inj hk; omega))
     clear W_199
     have bW_211 := hide ((unhide bW_200).grown hg28 (hne28 _ (by omega)))
     clear bW_200
     have bG_212 := hide ((unhide bG_201).grown hg28 (hne28 _ (by omega)))
     clear bG_201
     have G_213 := hide ((unhide G_202).grown hg28 (fun k hk => by have e : PH = k := Option.some.inj hk; omega))
     clear G_202
     have H_214 := hide ((unhide H_206).grown hg28 (fun k hk => by have e : PH = k := Option.some.inj hk; omega))
     clear H_206
     have bH_215 := hide (hF28)
     clear bH_204
     go_simp
     rw [← hw28]
     refine hK.out _ _ ?_ (fun hHeldHS => ?_)
     · exact ⟨(unhide A_208).S, (unhide Av_209).S⟩
     clear hK K
     try simp only [Act.put, qqA, qqB, qqC]
     clear kn knf hw28 hF28 hg28 hne28
     refine wtk (i := 10) (oi := oAvw19) (v := ?_) rfl (Or.inl ⟨by rfl, ?_⟩) (by assumption) ?_
     rotate_left 1
     · (intro w' hSw; (try dsimp only at hSw); go_simp; try with_reducible rfl)
     try simp only [Act.put, qqA, qqB, qqC]
     refine wpAnyH_done (by kernel_rfl) ?_ _
     have zEH : PH < w28.heap.size := (unhide bH_215).lt
     have zHH : hiH ≤ w28.heap.size := (unhide H_214).le
     have kbH := (unhide bH_215).S
     have kbW := (unhide bW_211).S
     go_wp2_with fail
     refine (eqMr nb2 vw2 vh2 aH aW cH cW nL L HNL (Nat.le_trans (unhide HN10) (by decide)) _ (unhide H_214).rowV (unhide W_210).rowV).mono ?_
     rintro e w29 ⟨rfl, hb29⟩
     clear kbH kbW
     have B_216 := hide ((unhide B_207).trans (hb29.mono (unhide B_207).size))
     clear B_207
     have A_217 := hide ((unhide A_208).below hb29)
     clear A_208
     have Av_218 := hide ((unhide Av_209).below hb29)
     clear Av_209
     have W_219 := hide ((unhide W_210).below hb29 (unhide W_210).le)
     clear W_210
     have bW_220 := hide ((unhide bW_211).below hb29)
     clear bW_211
     have bG_221 := hide ((unhide bG_212).below hb29)
     clear bG_212
     have G_222 := hide ((unhide G_213).below hb29 (unhide G_213).le)
     clear G_213
     have H_223 := hide ((unhide H_214).below hb29 (unhide H_214).le)
     clear H_214
     have bH_224 := hide ((unhide bH_215).below hb29)
     clear bH_215
     clear hb29
     have kbG := (unhide bG_221).S
     go_wp2_with fail
     refine (heldMr nb2 vw2 vh2 _ nL _ _ _ 1 q HQ (by decide) (by decide) (by have := unhide HN10; omega) _ (unhide G_222)).mono ?_
     rintro e w30 ⟨rfl, hb30⟩
     clear kbG
     have B_225 := hide ((unhide B_216).trans (hb30.mono (unhide B_216).size))
     clear B_216
     have A_226 := hide ((unhide A_217).below hb30)
     clear A_217
     have Av_227 := hide ((unhide Av_218).below hb30)
     clear Av_218
     have W_228 := hide ((unhide W_219).below hb30 (unhide W_219).le)
     clear W_219
     have bW_229 := hide ((unhide bW_220).below hb30)
     clear bW_220
     have bG_230 := hide ((unhide bG_221).below hb30)
     clear bG_221
     have G_231 := hide ((unhide G_222).below hb30 (unhide G_222).le)
     clear G_222
     have H_232 := hide ((unhide H_223).below hb30 (unhide H_223).le)
     clear H_223
     have bH_233 := hide ((unhide bH_224).below hb30)
     clear bH_224
     clear hb30
     go_wp2_with fail
     go_ret
     exact ⟨rfl, (unhide B_225)⟩
   ·
    obtain ⟨PH, hP⟩ : ∃ P, P = w23.heap.size := ⟨_, rfl⟩
    have zPH : w.heap.size + 1 < PH := by rw [hP]; exact (unhide Av_164).lt
    have zPHG : w11.heap.size ≤ PH := by rw [hP]; exact (unhide G_168).le
    have zPHbW : PW < PH := by rw [hP]; exact (unhide bW_166).lt
    have zPHbG : w11.heap.size < PH := by rw [hP]; exact (unhide bG_167).lt
    have B_169 := hide ((unhide B_162).alloc (unhide B_162).size (.cells #[.int .i64 0, .int .i64 0, .int .i64 0, .slice none 0 0] 30))
    clear B_162
    have A_170 := hide ((unhide A_163).alloc (.cells #[.int .i64 0, .int .i64 0, .int .i64 0, .slice none 0 0] 30))
    clear A_163
    have Av_171 := hide ((unhide Av_164).alloc (.cells #[.int .i64 0, .int .i64 0, .int .i64 0, .slice none 0 0] 30))
    clear Av_164
    have W_172 := hide ((unhide W_165).below (Go.Joins.below_alloc1 _ (.cells #[.int .i64 0, .int .i64 0, .int .i64 0, .slice none 0 0] 30)) (unhide W_165).le)
    clear W_165
    have bW_173 := hide ((unhide bW_166).alloc (.cells #[.int .i64 0, .int .i64 0, .int .i64 0, .slice none 0 0] 30))
    clear bW_166
    have bG_174 := hide ((unhide bG_167).alloc (.cells #[.int .i64 0, .int .i64 0, .int .i64 0, .slice none 0 0] 30))
    clear bG_167
    have G_175 := hide ((unhide G_168).below (Go.Joins.below_alloc1 _ (.cells #[.int .i64 0, .int .i64 0, .int .i64 0, .slice none 0 0] 30)) (unhide G_168).le)
    clear G_168
    have bH_176 := hide (BF.new w23 #[.int .i64 0, .int .i64 0, .int .i64 0, .slice none 0 0] 30)
    rw [← hP] at bH_176
    go_simp
    refine hK.out _ _ ?_ (fun hHeldHA => ?_)
    · exact ⟨(unhide A_170).S, (unhide Av_171).S⟩
    clear hK K
    try simp only [Act.put, qqA, qqB, qqC]
    rw [← hP]
    clear hP
    generalize w23.alloc (.cells #[.int .i64 0, .int .i64 0, .int .i64 0, .slice none 0 0] 30) = w24 at B_169 A_170 Av_171 W_172 bW_173 bG_174 G_175 bH_176 hHeldHA ⊢
    refine wpAnyH_ready (rs := [1]) (by kernel_rfl) (by simp) ?_
    refine AllReadyH.cons (o := oAvw11) rfl (fun K hK => ?_) AllReadyH.nil
    go_simp
    refine (toMr nb vw vh a cap n l HN (unhide HL) _ ((unhide HR).below (unhide B_169))).mono ?_
    rintro e w25 ⟨g25, rfl, o25, hb25⟩
    have zc25 := hb25.size
    have B_177 := hide ((unhide B_169).trans (hb25.mono (unhide B_169).size))
    clear B_169
    have A_178 := hide ((unhide A_170).below hb25)
    clear A_170
    have Av_179 := hide ((unhide Av_171).below hb25)
    clear Av_171
    have W_180 := hide ((unhide W_172).below hb25 (unhide W_172).le)
    clear W_172
    have bW_181 := hide ((unhide bW_173).below hb25)
    clear bW_173
    have bG_182 := hide ((unhide bG_174).below hb25)
    clear bG_174
    have G_183 := hide ((unhide G_175).below hb25 (unhide G_175).le)
    clear G_175
    have bH_184 := hide ((unhide bH_176).below hb25)
    clear bH_176
    clear hb25
    have HT1_185 := hide (held_of o25)
    clear o25
    go_wp2_with fail
    refine hK.out _ _ ?_ (fun hHeldH1 => ?_)
    · exact ⟨(unhide A_178).S, (unhide Av_179).S⟩
    clear hK K
    try simp only [Act.put, qqA, qqB, qqC]
    refine wpAnyH_ready (rs := [3]) (by kernel_rfl) (by simp) ?_
    refine AllReadyH.cons (o := oAvw13) rfl (fun K hK => ?_) AllReadyH.nil
    go_simp
    refine (toVw nbv frv vwv vhv fuv av capv nv lv HNv (unhide HLv) _ ((unhide HRv).below (unhide B_177))).mono ?_
    rintro e w26 ⟨g26, rfl, o26, hb26⟩
    have zc26 := hb26.size
    have B_186 := hide ((unhide B_177).trans (hb26.mono (unhide B_177).size))
    clear B_177
    have A_187 := hide ((unhide A_178).below hb26)
    clear A_178
    have Av_188 := hide ((unhide Av_179).below hb26)
    clear Av_179
    have W_189 := hide ((unhide W_180).below hb26 (unhide W_180).le)
    clear W_180
    have bW_190 := hide ((unhide bW_181).below hb26)
    clear bW_181
    have bG_191 := hide ((unhide bG_182).below hb26)
    clear bG_182
    have G_192 := hide ((unhide G_183).below hb26 (unhide G_183).le)
    clear G_183
    have bH_193 := hide ((unhide bH_184).below hb26)
    clear bH_184
    have HT1_194 := hide ((unhide HT1_185).below hb26 (unhide HT1_185).le)
    clear HT1_185
    clear hb26
    have HT3_195 := hide (heldZ_of o26)
    clear o26
    go_wp2_with fail
    refine hK.out _ _ ?_ (fun hHeldH3 => ?_)
    · exact ⟨(unhide A_187).S, (unhide Av_188).S⟩
    clear hK K
    try simp only [Act.put, qqA, qqB, qqC]
    refine wpAnyH_ready (rs := [4]) (by kernel_rfl) (by simp) ?_
    refine AllReadyH.cons (o := oAvw14) rfl (fun K hK => ?_) AllReadyH.nil
    have HPLH : Hid (PH < w26.heap.size) := (unhide bH_193).lt
    go_simp
    refine (iaccept nb vw vh _ _ n l HN (unhide HL) HSZ nbv frv fuv vwv vhv _ _ nv lv HNv (unhide HLv) HSZv nb2 vw2 vh2 L c HIS _ (unhide HT1_194).rowV (unhide HT3_195).rowV).mono ?_
    rintro e w27 ⟨vH, rfl, hoH, hb27⟩
    have zc27 := hb27.size
    have B_196 := hide ((unhide B_186).trans (hb27.mono (unhide B_186).size))
    clear B_186
    have A_197 := hide ((unhide A_187).below hb27)
    clear A_187
    have Av_198 := hide ((unhide Av_188).below hb27)
    clear Av_188
    have W_199 := hide ((unhide W_189).below hb27 (unhide W_189).le)
    clear W_189
    have bW_200 := hide ((unhide bW_190).below hb27)
    clear bW_190
    have bG_201 := hide ((unhide bG_191).below hb27)
    clear bG_191
    have G_202 := hide ((unhide G_192).below hb27 (unhide G_192).le)
    clear G_192
    have bH_203 := hide ((unhide bH_193).below hb27)
    clear bH_193
    have HT1_204 := hide ((unhide HT1_194).below hb27 (unhide HT1_194).le)
    clear HT1_194
    have HT3_205 := hide ((unhide HT3_195).below hb27 (unhide HT3_195).le)
    clear HT3_195
    clear hb27
    clear HT1_204
    clear HT3_205
    obtain ⟨aH, cH, rfl, -⟩ := own_rowV hoH
    rw [unhide HNL] at hoH
    rw [unhide HNL]
    obtain ⟨loH, hiH, eloH, ehiH⟩ : ∃ lo hi, lo = w26.heap.size ∧ hi = w27.heap.size := ⟨_, _, rfl, rfl⟩
    have H_206 := hide (held_of hoH)
    rw [← eloH, ← ehiH] at H_206
    have zPHr : PH < loH := by rw [eloH]; exact unhide HPLH
    clear hoH eloH ehiH
    go_wp2_with fail
    refine hK.out _ _ ?_ (fun hHeldH4 => ?_)
    · exact ⟨(unhide A_197).S, (unhide Av_198).S⟩
    clear hK K
    try simp only [Act.put, qqA, qqB, qqC]
    refine wtk (i := 5) (oi := oAvw15) (v := ?_) rfl (Or.inl ⟨by rfl, ?_⟩) (by assumption) ?_
    rotate_left 1
    · (intro w' hSw; (try dsimp only at hSw); go_simp; try with_reducible rfl)
    try simp only [Act.put, qqA, qqB, qqC]
    refine wtk (i := 6) (oi := oAvw16) (v := ?_) rfl (Or.inl ⟨by rfl, ?_⟩) (by assumption) ?_
    rotate_left 1
    · (intro w' hSw; (try dsimp only at hSw); go_simp; try with_reducible rfl)
    try simp only [Act.put, qqA, qqB, qqC]
    refine wtk (i := 7) (oi := oAvw17) (v := ?_) rfl (Or.inl ⟨by rfl, ?_⟩) (by assumption) ?_
    rotate_left 1
    · (intro w' hSw; (try dsimp only at hSw); go_simp; try with_reducible rfl)
    try simp only [Act.put, qqA, qqB, qqC]
    refine wpAnyH_ready (rs := [9]) (by kernel_rfl) (by simp) ?_
    refine AllReadyH.cons (o := oAvw18) rfl (fun K hK => ?_) AllReadyH.nil
    have kn := (unhide bH_203).S
    have knf := (unhide bH_203).F
    obtain ⟨w28, hw28, hF28, hg28⟩ := put4G w27 (unhide bH_203) (.int .i64 nb2) (.int .i64 vw2) (.int .i64 vh2) (.slice aH nL cH)
    have hne28 : ∀ q, q ≠ PH → (some PH : Option Nat) ≠ some q := fun q h e => h (Option.some.inj e).symm
    have B_207 := hide ((unhide B_196).grown hg28 (unhide B_196).size (fun k hk => by have e : PH = k := Option.some.inj hk; omega))
    clear B_196
    have A_208 := hide ((unhide A_197).grown hg28 (hne28 _ (by omega)))
    clear A_197
    have Av_209 := hide ((unhide Av_198).grown hg28 (hne28 _ (by omega)))
    clear Av_198
    have W_210 := hide ((unhide W_199).grown hg28 (fun k hk => by have e : PH = k := Option.some.inj hk; omega))
    clear W_199
    have bW_211 := hide ((unhide bW_200).grown hg28 (hne28 _ (by omega)))
    clear bW_200
    have bG_212 := hide ((unhide bG_201).grown hg28 (hne28 _ (by omega)))
    clear bG_201
    have G_213 := hide ((unhide G_202).grown hg28 (fun k hk => by have e : PH = k := Option.some.inj hk; omega))
    clear G_202
    have H_214 := hide ((unhide H_206).grown hg28 (fun k hk => by have e : PH = k := Option.some.inj hk; omega))
    clear H_206
    have bH_215 := hide (hF28)
    clear bH_203
    go_simp
    rw [← hw28]
    refine hK.out _ _ ?_ (fun hHeldHS => ?_)
    · exact ⟨(unhide A_208).S, (unhide Av_209).S⟩
    clear hK K
    try simp only [Act.put, qqA, qqB, qqC]
    clear kn knf hw28 hF28 hg28 hne28
    refine wtk (i := 10) (oi := oAvw19) (v := ?_) rfl (Or.inl ⟨by rfl, ?_⟩) (by assumption) ?_
    rotate_left 1
    · (intro w' hSw; (try dsimp only at hSw); go_simp; try with_reducible rfl)
    try simp only [Act.put, qqA, qqB, qqC]
    refine wpAnyH_done (by kernel_rfl) ?_ _
    have zEH : PH < w28.heap.size := (unhide bH_215).lt
    have zHH : hiH ≤ w28.heap.size := (unhide H_214).le
    have kbH := (unhide bH_215).S
    have kbW := (unhide bW_211).S
    go_wp2_with fail
    refine (eqMr nb2 vw2 vh2 aH aW cH cW nL L HNL (Nat.le_trans (unhide HN10) (by decide)) _ (unhide H_214).rowV (unhide W_210).rowV).mono ?_
    rintro e w29 ⟨rfl, hb29⟩
    clear kbH kbW
    have B_216 := hide ((unhide B_207).trans (hb29.mono (unhide B_207).size))
    clear B_207
    have A_217 := hide ((unhide A_208).below hb29)
    clear A_208
    have Av_218 := hide ((unhide Av_209).below hb29)
    clear Av_209
    have W_219 := hide ((unhide W_210).below hb29 (unhide W_210).le)
    clear W_210
    have bW_220 := hide ((unhide bW_211).below hb29)
    clear bW_211
    have bG_221 := hide ((unhide bG_212).below hb29)
    clear bG_212
    have G_222 := hide ((unhide G_213).below hb29 (unhide G_213).le)
    clear G_213
    have H_223 := hide ((unhide H_214).below hb29 (unhide H_214).le)
    clear H_214
    have bH_224 := hide ((unhide bH_215).below hb29)
    clear bH_215
    clear hb29
    have kbG := (unhide bG_221).S
    go_wp2_with fail
    refine (heldMr nb2 vw2 vh2 _ nL _ _ _ 1 q HQ (by decide) (by decide) (by have := unhide HN10; omega) _ (unhide G_222)).mono ?_
    rintro e w30 ⟨rfl, hb30⟩
    clear kbG
    have B_225 := hide ((unhide B_216).trans (hb30.mono (unhide B_216).size))
    clear B_216
    have A_226 := hide ((unhide A_217).below hb30)
    clear A_217
    have Av_227 := hide ((unhide Av_218).below hb30)
    clear Av_218
    have W_228 := hide ((unhide W_219).below hb30 (unhide W_219).le)
    clear W_219
    have bW_229 := hide ((unhide bW_220).below hb30)
    clear bW_220
    have bG_230 := hide ((unhide bG_221).below hb30)
    clear bG_221
    have G_231 := hide ((unhide G_222).below hb30 (unhide G_222).le)
    clear G_222
    have H_232 := hide ((unhide H_223).below hb30 (unhide H_223).le)
    clear H_223
    have bH_233 := hide ((unhide bH_224).below hb30)
    clear bH_224
    clear hb30
    go_wp2_with fail
    go_ret
    exact ⟨rfl, (unhide B_225)⟩
 ·
  obtain ⟨PW, hP⟩ : ∃ P, P = w3.heap.size := ⟨_, rfl⟩
  have zPW : w.heap.size + 1 < PW := by rw [hP]; exact (unhide Av_12).lt
  have B_13 := hide ((unhide B_10).alloc (unhide B_10).size (.cells #[.int .i64 0, .int .i64 0, .int .i64 0, .slice none 0 0] 30))
  clear B_10
  have A_14 := hide ((unhide A_11).alloc (.cells #[.int .i64 0, .int .i64 0, .int .i64 0, .slice none 0 0] 30))
  clear A_11
  have Av_15 := hide ((unhide Av_12).alloc (.cells #[.int .i64 0, .int .i64 0, .int .i64 0, .slice none 0 0] 30))
  clear Av_12
  have bW_16 := hide (BF.new w3 #[.int .i64 0, .int .i64 0, .int .i64 0, .slice none 0 0] 30)
  rw [← hP] at bW_16
  go_simp
  refine hK.out _ _ ?_ (fun hHeldWA => ?_)
  · exact ⟨(unhide A_14).S, (unhide Av_15).S⟩
  clear hK K
  try simp only [Act.put, qqA, qqB, qqC]
  rw [← hP]
  clear hP
  generalize w3.alloc (.cells #[.int .i64 0, .int .i64 0, .int .i64 0, .slice none 0 0] 30) = w4 at B_13 A_14 Av_15 bW_16 hHeldWA ⊢
  refine wpAnyH_ready (rs := [1]) (by kernel_rfl) (by simp) ?_
  refine AllReadyH.cons (o := oAvw0) rfl (fun K hK => ?_) AllReadyH.nil
  go_simp
  refine (toMr nb vw vh a cap n l HN (unhide HL) _ ((unhide HR).below (unhide B_13))).mono ?_
  rintro e w5 ⟨g5, rfl, o5, hb5⟩
  have zc5 := hb5.size
  have B_17 := hide ((unhide B_13).trans (hb5.mono (unhide B_13).size))
  clear B_13
  have A_18 := hide ((unhide A_14).below hb5)
  clear A_14
  have Av_19 := hide ((unhide Av_15).below hb5)
  clear Av_15
  have bW_20 := hide ((unhide bW_16).below hb5)
  clear bW_16
  clear hb5
  have WT1_21 := hide (held_of o5)
  clear o5
  go_wp2_with fail
  refine hK.out _ _ ?_ (fun hHeldW1 => ?_)
  · exact ⟨(unhide A_18).S, (unhide Av_19).S⟩
  clear hK K
  try simp only [Act.put, qqA, qqB, qqC]
  refine wpAnyH_ready (rs := [3]) (by kernel_rfl) (by simp) ?_
  refine AllReadyH.cons (o := oAvw2) rfl (fun K hK => ?_) AllReadyH.nil
  go_simp
  refine (toVw nbv frv vwv vhv fuv av capv nv lv HNv (unhide HLv) _ ((unhide HRv).below (unhide B_17))).mono ?_
  rintro e w6 ⟨g6, rfl, o6, hb6⟩
  have zc6 := hb6.size
  have B_22 := hide ((unhide B_17).trans (hb6.mono (unhide B_17).size))
  clear B_17
  have A_23 := hide ((unhide A_18).below hb6)
  clear A_18
  have Av_24 := hide ((unhide Av_19).below hb6)
  clear Av_19
  have bW_25 := hide ((unhide bW_20).below hb6)
  clear bW_20
  have WT1_26 := hide ((unhide WT1_21).below hb6 (unhide WT1_21).le)
  clear WT1_21
  clear hb6
  have WT3_27 := hide (heldZ_of o6)
  clear o6
  go_wp2_with fail
  refine hK.out _ _ ?_ (fun hHeldW3 => ?_)
  · exact ⟨(unhide A_23).S, (unhide Av_24).S⟩
  clear hK K
  try simp only [Act.put, qqA, qqB, qqC]
  refine wpAnyH_ready (rs := [4]) (by kernel_rfl) (by simp) ?_
  refine AllReadyH.cons (o := oAvw3) rfl (fun K hK => ?_) AllReadyH.nil
  have HPLW : Hid (PW < w6.heap.size) := (unhide bW_25).lt
  go_simp
  refine (saccept nb vw vh _ _ n l HN (unhide HL) HSZ nbv frv fuv vwv vhv _ _ nv lv HNv (unhide HLv) HSZv nb2 vw2 vh2 L c HIS _ (unhide WT1_26).rowV (unhide WT3_27).rowV).mono ?_
  rintro e w7 ⟨vW, rfl, hoW, hb7⟩
  have zc7 := hb7.size
  have B_28 := hide ((unhide B_22).trans (hb7.mono (unhide B_22).size))
  clear B_22
  have A_29 := hide ((unhide A_23).below hb7)
  clear A_23
  have Av_30 := hide ((unhide Av_24).below hb7)
  clear Av_24
  have bW_31 := hide ((unhide bW_25).below hb7)
  clear bW_25
  have WT1_32 := hide ((unhide WT1_26).below hb7 (unhide WT1_26).le)
  clear WT1_26
  have WT3_33 := hide ((unhide WT3_27).below hb7 (unhide WT3_27).le)
  clear WT3_27
  clear hb7
  clear WT1_32
  clear WT3_33
  obtain ⟨aW, cW, rfl, -⟩ := own_rowV hoW
  rw [unhide HNL] at hoW
  rw [unhide HNL]
  obtain ⟨loW, hiW, eloW, ehiW⟩ : ∃ lo hi, lo = w6.heap.size ∧ hi = w7.heap.size := ⟨_, _, rfl, rfl⟩
  have W_34 := hide (held_of hoW)
  rw [← eloW, ← ehiW] at W_34
  have zPWr : PW < loW := by rw [eloW]; exact unhide HPLW
  clear hoW eloW ehiW
  go_wp2_with fail
  refine hK.out _ _ ?_ (fun hHeldW4 => ?_)
  · exact ⟨(unhide A_29).S, (unhide Av_30).S⟩
  clear hK K
  try simp only [Act.put, qqA, qqB, qqC]
  refine wtk (i := 5) (oi := oAvw4) (v := ?_) rfl (Or.inl ⟨by rfl, ?_⟩) (by assumption) ?_
  rotate_left 1
  · (intro w' hSw; (try dsimp only at hSw); go_simp; try with_reducible rfl)
  try simp only [Act.put, qqA, qqB, qqC]
  refine wtk (i := 6) (oi := oAvw5) (v := ?_) rfl (Or.inl ⟨by rfl, ?_⟩) (by assumption) ?_
  rotate_left 1
  · (intro w' hSw; (try dsimp only at hSw); go_simp; try with_reducible rfl)
  try simp only [Act.put, qqA, qqB, qqC]
  refine wtk (i := 7) (oi := oAvw6) (v := ?_) rfl (Or.inl ⟨by rfl, ?_⟩) (by assumption) ?_
  rotate_left 1
  · (intro w' hSw; (try dsimp only at hSw); go_simp; try with_reducible rfl)
  try simp only [Act.put, qqA, qqB, qqC]
  refine wpAnyH_ready (rs := [9]) (by kernel_rfl) (by simp) ?_
  refine AllReadyH.cons (o := oAvw7) rfl (fun K hK => ?_) AllReadyH.nil
  have kn := (unhide bW_31).S
  have knf := (unhide bW_31).F
  obtain ⟨w8, hw8, hF8, hg8⟩ := put4G w7 (unhide bW_31) (.int .i64 nb2) (.int .i64 vw2) (.int .i64 vh2) (.slice aW nL cW)
  have hne8 : ∀ q, q ≠ PW → (some PW : Option Nat) ≠ some q := fun q h e => h (Option.some.inj e).symm
  have B_35 := hide ((unhide B_28).grown hg8 (unhide B_28).size (fun k hk => by have e : PW = k := Option.some.inj hk; omega))
  clear B_28
  have A_36 := hide ((unhide A_29).grown hg8 (hne8 _ (by omega)))
  clear A_29
  have Av_37 := hide ((unhide Av_30).grown hg8 (hne8 _ (by omega)))
  clear Av_30
  have W_38 := hide ((unhide W_34).grown hg8 (fun k hk => by have e : PW = k := Option.some.inj hk; omega))
  clear W_34
  have bW_39 := hide (hF8)
  clear bW_31
  go_simp
  rw [← hw8]
  refine hK.out _ _ ?_ (fun hHeldWS => ?_)
  · exact ⟨(unhide A_36).S, (unhide Av_37).S⟩
  clear hK K
  try simp only [Act.put, qqA, qqB, qqC]
  clear kn knf hw8 hF8 hg8 hne8
  refine wtk (i := 10) (oi := oAvw8) (v := ?_) rfl (Or.inl ⟨by rfl, ?_⟩) (by assumption) ?_
  rotate_left 1
  · (intro w' hSw; (try dsimp only at hSw); go_simp; try with_reducible rfl)
  try simp only [Act.put, qqA, qqB, qqC]
  refine wpAnyH_done (by kernel_rfl) ?_ _
  have zEW : PW < w8.heap.size := (unhide bW_39).lt
  have zHW : hiW ≤ w8.heap.size := (unhide W_38).le
  have kA := (unhide A_36).S
  have kAv := (unhide Av_37).S
  go_wp2_with fail
  refine (toMr nb vw vh a cap n l HN (unhide HL) _ ((unhide HR).below (unhide B_35))).mono ?_
  rintro e w9 ⟨g9, rfl, o9, hb9⟩
  clear kA kAv
  have z9 : w8.heap.size ≤ w9.heap.size := by have := hb9.size; (try simp at this); omega
  have B_40 := hide ((unhide B_35).trans (hb9.mono (unhide B_35).size))
  clear B_35
  have A_41 := hide ((unhide A_36).below hb9)
  clear A_36
  have Av_42 := hide ((unhide Av_37).below hb9)
  clear Av_37
  have W_43 := hide ((unhide W_38).below hb9 (unhide W_38).le)
  clear W_38
  have bW_44 := hide ((unhide bW_39).below hb9)
  clear bW_39
  clear hb9
  have X_45 := hide (held_of o9)
  clear o9
  try simp only [World.size_alloc] at X_45
  have B_46 := hide ((unhide B_40).alloc (unhide B_40).size (.cells #[.int .i64 nb, .int .i64 vw, .int .i64 vh, .slice (some ⟨g9, 0, none⟩) n n] 30))
  clear B_40
  have A_47 := hide ((unhide A_41).alloc (.cells #[.int .i64 nb, .int .i64 vw, .int .i64 vh, .slice (some ⟨g9, 0, none⟩) n n] 30))
  clear A_41
  have Av_48 := hide ((unhide Av_42).alloc (.cells #[.int .i64 nb, .int .i64 vw, .int .i64 vh, .slice (some ⟨g9, 0, none⟩) n n] 30))
  clear Av_42
  have W_49 := hide ((unhide W_43).below (Go.Joins.below_alloc1 _ (.cells #[.int .i64 nb, .int .i64 vw, .int .i64 vh, .slice (some ⟨g9, 0, none⟩) n n] 30)) (unhide W_43).le)
  clear W_43
  have bW_50 := hide ((unhide bW_44).alloc (.cells #[.int .i64 nb, .int .i64 vw, .int .i64 vh, .slice (some ⟨g9, 0, none⟩) n n] 30))
  clear bW_44
  have X_51 := hide ((unhide X_45).below (Go.Joins.below_alloc1 _ (.cells #[.int .i64 nb, .int .i64 vw, .int .i64 vh, .slice (some ⟨g9, 0, none⟩) n n] 30)) (unhide X_45).le)
  clear X_45
  have bX_52 := hide (BF.new w9 #[.int .i64 nb, .int .i64 vw, .int .i64 vh, .slice (some ⟨g9, 0, none⟩) n n] 30)
  have kA := (unhide A_47).S
  have kAv := (unhide Av_48).S
  go_wp2_with fail
  refine (toVw nbv frv vwv vhv fuv av capv nv lv HNv (unhide HLv) _ ((unhide HRv).below (unhide B_46))).mono ?_
  rintro e w10 ⟨g10, rfl, o10, hb10⟩
  clear kA kAv
  have z10 : w9.heap.size + 1 ≤ w10.heap.size := by have := hb10.size; (try simp at this); omega
  have B_53 := hide ((unhide B_46).trans (hb10.mono (unhide B_46).size))
  clear B_46
  have A_54 := hide ((unhide A_47).below hb10)
  clear A_47
  have Av_55 := hide ((unhide Av_48).below hb10)
  clear Av_48
  have W_56 := hide ((unhide W_49).below hb10 (unhide W_49).le)
  clear W_49
  have bW_57 := hide ((unhide bW_50).below hb10)
  clear bW_50
  have X_58 := hide ((unhide X_51).below hb10 (unhide X_51).le)
  clear X_51
  have bX_59 := hide ((unhide bX_52).below hb10)
  clear bX_52
  clear hb10
  have Y_60 := hide (heldZ_of o10)
  clear o10
  try simp only [World.size_alloc] at Y_60
  have B_61 := hide ((unhide B_53).alloc (unhide B_53).size (.cells #[.int .i64 nbv, .int .i64 frv, .bool fuv, .int .i64 vwv, .int .i64 vhv, .slice (some ⟨g10, 0, none⟩) nv nv] 36))
  clear B_53
  have A_62 := hide ((unhide A_54).alloc (.cells #[.int .i64 nbv, .int .i64 frv, .bool fuv, .int .i64 vwv, .int .i64 vhv, .slice (some ⟨g10, 0, none⟩) nv nv] 36))
  clear A_54
  have Av_63 := hide ((unhide Av_55).alloc (.cells #[.int .i64 nbv, .int .i64 frv, .bool fuv, .int .i64 vwv, .int .i64 vhv, .slice (some ⟨g10, 0, none⟩) nv nv] 36))
  clear Av_55
  have W_64 := hide ((unhide W_56).below (Go.Joins.below_alloc1 _ (.cells #[.int .i64 nbv, .int .i64 frv, .bool fuv, .int .i64 vwv, .int .i64 vhv, .slice (some ⟨g10, 0, none⟩) nv nv] 36)) (unhide W_56).le)
  clear W_56
  have bW_65 := hide ((unhide bW_57).alloc (.cells #[.int .i64 nbv, .int .i64 frv, .bool fuv, .int .i64 vwv, .int .i64 vhv, .slice (some ⟨g10, 0, none⟩) nv nv] 36))
  clear bW_57
  have X_66 := hide ((unhide X_58).below (Go.Joins.below_alloc1 _ (.cells #[.int .i64 nbv, .int .i64 frv, .bool fuv, .int .i64 vwv, .int .i64 vhv, .slice (some ⟨g10, 0, none⟩) nv nv] 36)) (unhide X_58).le)
  clear X_58
  have bX_67 := hide ((unhide bX_59).alloc (.cells #[.int .i64 nbv, .int .i64 frv, .bool fuv, .int .i64 vwv, .int .i64 vhv, .slice (some ⟨g10, 0, none⟩) nv nv] 36))
  clear bX_59
  have Y_68 := hide ((unhide Y_60).below (Go.Joins.below_alloc1 _ (.cells #[.int .i64 nbv, .int .i64 frv, .bool fuv, .int .i64 vwv, .int .i64 vhv, .slice (some ⟨g10, 0, none⟩) nv nv] 36)) (unhide Y_60).le)
  clear Y_60
  have bY_69 := hide (BF.new w10 #[.int .i64 nbv, .int .i64 frv, .bool fuv, .int .i64 vwv, .int .i64 vhv, .slice (some ⟨g10, 0, none⟩) nv nv] 36)
  have kbX := (unhide bX_67).S
  have kbY := (unhide bY_69).S
  go_wp2_with fail
  refine (iaccept nb vw vh _ _ n l HN (unhide HL) HSZ nbv frv fuv vwv vhv _ _ nv lv HNv (unhide HLv) HSZv nb2 vw2 vh2 L c HIS _ (unhide X_66).rowV (unhide Y_68).rowV).mono ?_
  rintro e w11 ⟨vG, rfl, hoG, hb11⟩
  clear kbX kbY
  have z11 : w10.heap.size + 1 ≤ w11.heap.size := by have := hb11.size; (try simp at this); omega
  have B_70 := hide ((unhide B_61).trans (hb11.mono (unhide B_61).size))
  clear B_61
  have A_71 := hide ((unhide A_62).below hb11)
  clear A_62
  have Av_72 := hide ((unhide Av_63).below hb11)
  clear Av_63
  have W_73 := hide ((unhide W_64).below hb11 (unhide W_64).le)
  clear W_64
  have bW_74 := hide ((unhide bW_65).below hb11)
  clear bW_65
  have X_75 := hide ((unhide X_66).below hb11 (unhide X_66).le)
  clear X_66
  have bX_76 := hide ((unhide bX_67).below hb11)
  clear bX_67
  have Y_77 := hide ((unhide Y_68).below hb11 (unhide Y_68).le)
  clear Y_68
  have bY_78 := hide ((unhide bY_69).below hb11)
  clear bY_69
  clear hb11
  obtain ⟨aG, cG, rfl, -⟩ := own_rowV hoG
  rw [unhide HNL] at hoG
  have G_79 := hide (held_of hoG)
  clear hoG
  try simp only [World.size_alloc] at G_79
  rw [unhide HNL]
  have B_80 := hide ((unhide B_70).alloc (unhide B_70).size (.cells #[.int .i64 nb2, .int .i64 vw2, .int .i64 vh2, .slice aG nL cG] 30))
  clear B_70
  have A_81 := hide ((unhide A_71).alloc (.cells #[.int .i64 nb2, .int .i64 vw2, .int .i64 vh2, .slice aG nL cG] 30))
  clear A_71
  have Av_82 := hide ((unhide Av_72).alloc (.cells #[.int .i64 nb2, .int .i64 vw2, .int .i64 vh2, .slice aG nL cG] 30))
  clear Av_72
  have W_83 := hide ((unhide W_73).below (Go.Joins.below_alloc1 _ (.cells #[.int .i64 nb2, .int .i64 vw2, .int .i64 vh2, .slice aG nL cG] 30)) (unhide W_73).le)
  clear W_73
  have bW_84 := hide ((unhide bW_74).alloc (.cells #[.int .i64 nb2, .int .i64 vw2, .int .i64 vh2, .slice aG nL cG] 30))
  clear bW_74
  have X_85 := hide ((unhide X_75).below (Go.Joins.below_alloc1 _ (.cells #[.int .i64 nb2, .int .i64 vw2, .int .i64 vh2, .slice aG nL cG] 30)) (unhide X_75).le)
  clear X_75
  have bX_86 := hide ((unhide bX_76).alloc (.cells #[.int .i64 nb2, .int .i64 vw2, .int .i64 vh2, .slice aG nL cG] 30))
  clear bX_76
  have Y_87 := hide ((unhide Y_77).below (Go.Joins.below_alloc1 _ (.cells #[.int .i64 nb2, .int .i64 vw2, .int .i64 vh2, .slice aG nL cG] 30)) (unhide Y_77).le)
  clear Y_77
  have bY_88 := hide ((unhide bY_78).alloc (.cells #[.int .i64 nb2, .int .i64 vw2, .int .i64 vh2, .slice aG nL cG] 30))
  clear bY_78
  have G_89 := hide ((unhide G_79).below (Go.Joins.below_alloc1 _ (.cells #[.int .i64 nb2, .int .i64 vw2, .int .i64 vh2, .slice aG nL cG] 30)) (unhide G_79).le)
  clear G_79
  have bG_90 := hide (BF.new w11 #[.int .i64 nb2, .int .i64 vw2, .int .i64 vh2, .slice aG nL cG] 30)
  have kbG := (unhide bG_90).S
  have kbW := (unhide bW_84).S
  go_wp2_with fail
  refine (eqMr nb2 vw2 vh2 aG aW cG cW nL L HNL (Nat.le_trans (unhide HN10) (by decide)) _ (unhide G_89).rowV (unhide W_83).rowV).mono ?_
  rintro e w12 ⟨rfl, hb12⟩
  clear kbG kbW
  have B_91 := hide ((unhide B_80).trans (hb12.mono (unhide B_80).size))
  clear B_80
  have A_92 := hide ((unhide A_81).below hb12)
  clear A_81
  have Av_93 := hide ((unhide Av_82).below hb12)
  clear Av_82
  have W_94 := hide ((unhide W_83).below hb12 (unhide W_83).le)
  clear W_83
  have bW_95 := hide ((unhide bW_84).below hb12)
  clear bW_84
  have X_96 := hide ((unhide X_85).below hb12 (unhide X_85).le)
  clear X_85
  have bX_97 := hide ((unhide bX_86).below hb12)
  clear bX_86
  have Y_98 := hide ((unhide Y_87).below hb12 (unhide Y_87).le)
  clear Y_87
  have bY_99 := hide ((unhide bY_88).below hb12)
  clear bY_88
  have G_100 := hide ((unhide G_89).below hb12 (unhide G_89).le)
  clear G_89
  have bG_101 := hide ((unhide bG_90).below hb12)
  clear bG_90
  clear hb12
  have K6 := And.intro (unhide A_92).S (unhide bX_97).S
  have HU6 := hide (unhide X_96).rowV
  have LA : w.heap.size < _ := (unhide A_92).lt
  have LX : w9.heap.size < _ := (unhide bX_97).lt
  go_wp2_with fail
  go_region_held3 (fun w' => (∀ o, w'.cell? ⟨w.heap.size, o, none⟩ = (#[.int .i64 nb, .int .i64 vw, .int .i64 vh, .slice a n cap] : Array Value)[o]?) ∧ (∀ o, w'.cell? ⟨w9.heap.size, o, none⟩ = (#[.int .i64 nb, .int .i64 vw, .int .i64 vh, .slice (some ⟨g9, 0, none⟩) n n] : Array Value)[o]?)) (first | exact K6 | exact K7 | exact K8) (first | (go_at_call 7; refine (toMr nb vw vh a cap n l HN (unhide HL) _ ((unhide HR).below (unhide B_91).drew)).mono ?_; rintro e w13 ⟨g13, rfl, o13, hb13⟩; have K7 := And.intro (fun o => (hb13.cell (p := ⟨w.heap.size, o, none⟩) LA).trans (K6.1 o)) (fun o => (hb13.cell (p := ⟨w9.heap.size, o, none⟩) LX).trans (K6.2 o)); have HO7 := hide (rowZ_at o13); have HU7 := hide ((unhide HU6).below (below_undrew hb13)); have HT7 := hide (below_undrew hb13); have LA7 := Nat.lt_of_lt_of_le LA (unhide HT7).size; have LX7 := Nat.lt_of_lt_of_le LX (unhide HT7).size; clear o13 hb13) | (go_at_call 10; refine (eqMr nb vw vh _ _ _ _ n l HN (unhide HL) _ (unhide HU7) (unhide HO7)).mono ?_; rintro e w14 ⟨rfl, hb14⟩; have K8 := And.intro (fun o => (hb14.cell (p := ⟨w.heap.size, o, none⟩) LA7).trans (K7.1 o)) (fun o => (hb14.cell (p := ⟨w9.heap.size, o, none⟩) LX7).trans (K7.2 o)); have HT8 := hide ((unhide HT7).trans (hb14.mono (unhide HT7).size)); clear hb14))
  clear K6 K7 K8 HO7 HU6 HU7 HT7 LA LX LA7 LX7
  have B_102 := hide ((unhide B_91).trans ((unhide HT8).mono (unhide B_91).size))
  clear B_91
  have A_103 := hide ((unhide A_92).below (unhide HT8))
  clear A_92
  have Av_104 := hide ((unhide Av_93).below (unhide HT8))
  clear Av_93
  have W_105 := hide ((unhide W_94).below (unhide HT8) (unhide W_94).le)
  clear W_94
  have bW_106 := hide ((unhide bW_95).below (unhide HT8))
  clear bW_95
  have X_107 := hide ((unhide X_96).below (unhide HT8) (unhide X_96).le)
  clear X_96
  have bX_108 := hide ((unhide bX_97).below (unhide HT8))
  clear bX_97
  have Y_109 := hide ((unhide Y_98).below (unhide HT8) (unhide Y_98).le)
  clear Y_98
  have bY_110 := hide ((unhide bY_99).below (unhide HT8))
  clear bY_99
  have G_111 := hide ((unhide G_100).below (unhide HT8) (unhide G_100).le)
  clear G_100
  have bG_112 := hide ((unhide bG_101).below (unhide HT8))
  clear bG_101
  clear HT8
  have K6 := And.intro (unhide Av_104).S (unhide bY_110).S
  have HU6 := hide (unhide Y_109).rowV
  have LA : (w.heap.size + 1) < _ := (unhide Av_104).lt
  have LX : w10.heap.size < _ := (unhide bY_110).lt
  go_wp2_with fail
  go_region_held3 (fun w' => (∀ o, w'.cell? ⟨(w.heap.size + 1), o, none⟩ = (#[.int .i64 nbv, .int .i64 frv, .bool fuv, .int .i64 vwv, .int .i64 vhv, .slice av nv capv] : Array Value)[o]?) ∧ (∀ o, w'.cell? ⟨w10.heap.size, o, none⟩ = (#[.int .i64 nbv, .int .i64 frv, .bool fuv, .int .i64 vwv, .int .i64 vhv, .slice (some ⟨g10, 0, none⟩) nv nv] : Array Value)[o]?)) (first | exact K6 | exact K7 | exact K8) (first | (go_at_call 8; refine (toVw nbv frv vwv vhv fuv av capv nv lv HNv (unhide HLv) _ ((unhide HRv).below (unhide B_102).drew)).mono ?_; rintro e w15 ⟨g15, rfl, o15, hb15⟩; have K7 := And.intro (fun o => (hb15.cell (p := ⟨(w.heap.size + 1), o, none⟩) LA).trans (K6.1 o)) (fun o => (hb15.cell (p := ⟨w10.heap.size, o, none⟩) LX).trans (K6.2 o)); have HO7 := hide (rowZ_at o15); have HU7 := hide ((unhide HU6).below (below_undrew hb15)); have HT7 := hide (below_undrew hb15); have LA7 := Nat.lt_of_lt_of_le LA (unhide HT7).size; have LX7 := Nat.lt_of_lt_of_le LX (unhide HT7).size; clear o15 hb15) | (go_at_call 11; refine (eqVw nbv frv vwv vhv fuv _ _ _ _ nv lv HNv (unhide HLv) _ (unhide HU7) (unhide HO7)).mono ?_; rintro e w16 ⟨rfl, hb16⟩; have K8 := And.intro (fun o => (hb16.cell (p := ⟨(w.heap.size + 1), o, none⟩) LA7).trans (K7.1 o)) (fun o => (hb16.cell (p := ⟨w10.heap.size, o, none⟩) LX7).trans (K7.2 o)); have HT8 := hide ((unhide HT7).trans (hb16.mono (unhide HT7).size)); clear hb16))
  clear K6 K7 K8 HO7 HU6 HU7 HT7 LA LX LA7 LX7
  have B_113 := hide ((unhide B_102).trans ((unhide HT8).mono (unhide B_102).size))
  clear B_102
  have A_114 := hide ((unhide A_103).below (unhide HT8))
  clear A_103
  have Av_115 := hide ((unhide Av_104).below (unhide HT8))
  clear Av_104
  have W_116 := hide ((unhide W_105).below (unhide HT8) (unhide W_105).le)
  clear W_105
  have bW_117 := hide ((unhide bW_106).below (unhide HT8))
  clear bW_106
  have X_118 := hide ((unhide X_107).below (unhide HT8) (unhide X_107).le)
  clear X_107
  have bX_119 := hide ((unhide bX_108).below (unhide HT8))
  clear bX_108
  have Y_120 := hide ((unhide Y_109).below (unhide HT8) (unhide Y_109).le)
  clear Y_109
  have bY_121 := hide ((unhide bY_110).below (unhide HT8))
  clear bY_110
  have G_122 := hide ((unhide G_111).below (unhide HT8) (unhide G_111).le)
  clear G_111
  have bG_123 := hide ((unhide bG_112).below (unhide HT8))
  clear bG_112
  clear HT8
  have kbX := (unhide bX_119).S
  go_wp2_with fail
  refine (markMr nb vw vh _ n _ _ _ 1 (kx : Int) HKX _ (by decide) (by decide) (unhide HKB).2.2 _ (unhide X_118)).mono ?_
  rintro e w17 ⟨rfl, h17, hg17⟩
  clear kbX
  have B_124 := hide (Below.marked (unhide B_113) (unhide B_113).size (unhide X_118) (by omega) hg17)
  clear B_113
  have A_125 := hide ((unhide A_114).grown hg17 (fun hk => by have := (unhide X_118).blk _ hk; omega))
  clear A_114
  have Av_126 := hide ((unhide Av_115).grown hg17 (fun hk => by have := (unhide X_118).blk _ hk; omega))
  clear Av_115
  have W_127 := hide ((unhide W_116).grown hg17 (fun k hk => by have := (unhide X_118).blk k hk; omega))
  clear W_116
  have bW_128 := hide ((unhide bW_117).grown hg17 (fun hk => by have := (unhide X_118).blk _ hk; omega))
  clear bW_117
  have bX_129 := hide ((unhide bX_119).grown hg17 (fun hk => by have := (unhide X_118).blk _ hk; omega))
  clear bX_119
  have Y_130 := hide ((unhide Y_120).grown hg17 (fun k hk => by have := (unhide X_118).blk k hk; omega))
  clear Y_120
  have bY_131 := hide ((unhide bY_121).grown hg17 (fun hk => by have := (unhide X_118).blk _ hk; omega))
  clear bY_121
  have G_132 := hide ((unhide G_122).grown hg17 (fun k hk => by have := (unhide X_118).blk k hk; omega))
  clear G_122
  have bG_133 := hide ((unhide bG_123).grown hg17 (fun hk => by have := (unhide X_118).blk _ hk; omega))
  clear bG_123
  have X_m17 := hide h17
  clear h17 hg17 X_118
  clear X_m17
  clear bX_129
  have kbY := (unhide bY_131).S
  go_wp2_with fail
  refine (markVw nbv frv vwv vhv fuv _ nv _ _ _ kx (ky : Int) HKY _ (unhide HKB).1 (unhide HKB).2.1 _ (unhide Y_130)).mono ?_
  rintro e w18 ⟨rfl, h18, hg18⟩
  clear kbY
  have B_134 := hide (Below.markedZ (unhide B_124) (unhide B_124).size (unhide Y_130) (by omega) hg18)
  clear B_124
  have A_135 := hide ((unhide A_125).grown hg18 (fun hk => by have := (unhide Y_130).blk _ hk; omega))
  clear A_125
  have Av_136 := hide ((unhide Av_126).grown hg18 (fun hk => by have := (unhide Y_130).blk _ hk; omega))
  clear Av_126
  have W_137 := hide ((unhide W_127).grown hg18 (fun k hk => by have := (unhide Y_130).blk k hk; omega))
  clear W_127
  have bW_138 := hide ((unhide bW_128).grown hg18 (fun hk => by have := (unhide Y_130).blk _ hk; omega))
  clear bW_128
  have bY_139 := hide ((unhide bY_131).grown hg18 (fun hk => by have := (unhide Y_130).blk _ hk; omega))
  clear bY_131
  have G_140 := hide ((unhide G_132).grown hg18 (fun k hk => by have := (unhide Y_130).blk k hk; omega))
  clear G_132
  have bG_141 := hide ((unhide bG_133).grown hg18 (fun hk => by have := (unhide Y_130).blk _ hk; omega))
  clear bG_133
  have Y_m18 := hide h18
  clear h18 hg18 Y_130
  clear Y_m18
  clear bY_139
  have kbG := (unhide bG_141).S
  have kbW := (unhide bW_138).S
  go_wp2_with fail
  refine (eqMr nb2 vw2 vh2 aG aW cG cW nL L HNL (Nat.le_trans (unhide HN10) (by decide)) _ (unhide G_140).rowV (unhide W_137).rowV).mono ?_
  rintro e w19 ⟨rfl, hb19⟩
  clear kbG kbW
  have B_142 := hide ((unhide B_134).trans (hb19.mono (unhide B_134).size))
  clear B_134
  have A_143 := hide ((unhide A_135).below hb19)
  clear A_135
  have Av_144 := hide ((unhide Av_136).below hb19)
  clear Av_136
  have W_145 := hide ((unhide W_137).below hb19 (unhide W_137).le)
  clear W_137
  have bW_146 := hide ((unhide bW_138).below hb19)
  clear bW_138
  have G_147 := hide ((unhide G_140).below hb19 (unhide G_140).le)
  clear G_140
  have bG_148 := hide ((unhide bG_141).below hb19)
  clear bG_141
  clear hb19
  have kbG := (unhide bG_148).S
  go_wp2_with fail
  refine (markMr nb2 vw2 vh2 _ nL _ _ _ 1 q HQ _ (by decide) (by decide) (by have := unhide HN10; omega) _ (unhide G_147)).mono ?_
  rintro e w20 ⟨rfl, h20, hg20⟩
  clear kbG
  have B_149 := hide (Below.marked (unhide B_142) (unhide B_142).size (unhide G_147) (by omega) hg20)
  clear B_142
  have A_150 := hide ((unhide A_143).grown hg20 (fun hk => by have := (unhide G_147).blk _ hk; omega))
  clear A_143
  have Av_151 := hide ((unhide Av_144).grown hg20 (fun hk => by have := (unhide G_147).blk _ hk; omega))
  clear Av_144
  have W_152 := hide ((unhide W_145).grown hg20 (fun k hk => by have := (unhide G_147).blk k hk; omega))
  clear W_145
  have bW_153 := hide ((unhide bW_146).grown hg20 (fun hk => by have := (unhide G_147).blk _ hk; omega))
  clear bW_146
  have bG_154 := hide ((unhide bG_148).grown hg20 (fun hk => by have := (unhide G_147).blk _ hk; omega))
  clear bG_148
  have G_m20 := hide h20
  clear h20 hg20 G_147
  have kbG := (unhide bG_154).S
  go_wp2_with fail
  refine (heldMr nb2 vw2 vh2 _ nL _ _ _ 1 q HQ (by decide) (by decide) (by have := unhide HN10; omega) _ (unhide G_m20)).mono ?_
  rintro e w21 ⟨rfl, hb21⟩
  clear kbG
  have B_155 := hide ((unhide B_149).trans (hb21.mono (unhide B_149).size))
  clear B_149
  have A_156 := hide ((unhide A_150).below hb21)
  clear A_150
  have Av_157 := hide ((unhide Av_151).below hb21)
  clear Av_151
  have W_158 := hide ((unhide W_152).below hb21 (unhide W_152).le)
  clear W_152
  have bW_159 := hide ((unhide bW_153).below hb21)
  clear bW_153
  have bG_160 := hide ((unhide bG_154).below hb21)
  clear bG_154
  have G_161 := hide ((unhide G_m20).below hb21 (unhide G_m20).le)
  clear G_m20
  clear hb21
  go_wp2_with fail
  have zG22 : w11.heap.size < w21.heap.size := (unhide bG_160).lt
  have zW22 : PW < w21.heap.size := (unhide bW_159).lt
  refine wp_region_held_drew (S := (fun w' => (∀ o, w'.cell? ⟨w.heap.size, o, none⟩ = (#[.int .i64 nb, .int .i64 vw, .int .i64 vh, .slice a n cap] : Array Value)[o]?) ∧ (∀ o, w'.cell? ⟨(w.heap.size + 1), o, none⟩ = (#[.int .i64 nbv, .int .i64 frv, .bool fuv, .int .i64 vwv, .int .i64 vhv, .slice av nv capv] : Array Value)[o]?))) (by kernel_rfl) ⟨(unhide A_156).S, (unhide Av_157).S⟩ (fun hHeld => ?_)
  have B_162 := hide ((unhide B_155).drew)
  clear B_155
  have A_163 := hide ((unhide A_156).drew)
  clear A_156
  have Av_164 := hide ((unhide Av_157).drew)
  clear Av_157
  have W_165 := hide ((unhide W_158).below (Below.refl _ _).drew (unhide W_158).le)
  clear W_158
  have bW_166 := hide ((unhide bW_159).drew)
  clear bW_159
  have bG_167 := hide ((unhide bG_160).drew)
  clear bG_160
  have G_168 := hide ((unhide G_161).below (Below.refl _ _).drew (unhide G_161).le)
  clear G_161
  generalize w21.drew = w23 at B_162 A_163 Av_164 W_165 bW_166 bG_167 G_168 hHeld ⊢
  refine wtk (i := 0) (oi := oAvw9) (v := ?_) rfl (Or.inl ⟨by rfl, ?_⟩) (by assumption) ?_
  rotate_left 1
  · (intro w' hSw; (try dsimp only at hSw); go_simp; try with_reducible rfl)
  try simp only [Act.put, qqA, qqB, qqC]
  refine wtk (i := 2) (oi := oAvw10) (v := ?_) rfl (Or.inl ⟨by rfl, ?_⟩) (by assumption) ?_
  rotate_left 1
  · (intro w' hSw; (try dsimp only at hSw); go_simp; try with_reducible rfl)
  try simp only [Act.put, qqA, qqB, qqC]
  refine wpAnyH_ready (rs := [1, 8]) (by kernel_rfl) (by simp) ?_
  refine AllReadyH.cons (o := oAvw11) rfl (fun K hK => ?_) (AllReadyH.cons (o := oAvw12) rfl (fun K hK => ?_) AllReadyH.nil)
  ·
   go_simp
   refine (toMr nb vw vh a cap n l HN (unhide HL) _ ((unhide HR).below (unhide B_162))).mono ?_
   rintro e w24 ⟨g24, rfl, o24, hb24⟩
   have zc24 := hb24.size
   have B_169 := hide ((unhide B_162).trans (hb24.mono (unhide B_162).size))
   clear B_162
   have A_170 := hide ((unhide A_163).below hb24)
   clear A_163
   have Av_171 := hide ((unhide Av_164).below hb24)
   clear Av_164
   have W_172 := hide ((unhide W_165).below hb24 (unhide W_165).le)
   clear W_165
   have bW_173 := hide ((unhide bW_166).below hb24)
   clear bW_166
   have bG_174 := hide ((unhide bG_167).below hb24)
   clear bG_167
   have G_175 := hide ((unhide G_168).below hb24 (unhide G_168).le)
   clear G_168
   clear hb24
   have HT1_176 := hide (held_of o24)
   clear o24
   go_wp2_with fail
   refine hK.out _ _ ?_ (fun hHeldH1 => ?_)
   · exact ⟨(unhide A_170).S, (unhide Av_171).S⟩
   clear hK K
   try simp only [Act.put, qqA, qqB, qqC]
   refine wpAnyH_ready (rs := [3, 8]) (by kernel_rfl) (by simp) ?_
   refine AllReadyH.cons (o := oAvw13) rfl (fun K hK => ?_) (AllReadyH.cons (o := oAvw12) rfl (fun K hK => ?_) AllReadyH.nil)
   ·
    go_simp
    refine (toVw nbv frv vwv vhv fuv av capv nv lv HNv (unhide HLv) _ ((unhide HRv).below (unhide B_169))).mono ?_
    rintro e w25 ⟨g25, rfl, o25, hb25⟩
    have zc25 := hb25.size
    have B_177 := hide ((unhide B_169).trans (hb25.mono (unhide B_169).size))
    clear B_169
    have A_178 := hide ((unhide A_170).below hb25)
    clear A_170
    have Av_179 := hide ((unhide Av_171).below hb25)
    clear Av_171
    have W_180 := hide ((unhide W_172).below hb25 (unhide W_172).le)
    clear W_172
    have bW_181 := hide ((unhide bW_173).below hb25)
    clear bW_173
    have bG_182 := hide ((unhide bG_174).below hb25)
    clear bG_174
    have G_183 := hide ((unhide G_175).below hb25 (unhide G_175).le)
    clear G_175
    have HT1_184 := hide ((unhide HT1_176).below hb25 (unhide HT1_176).le)
    clear HT1_176
    clear hb25
    have HT3_185 := hide (heldZ_of o25)
    clear o25
    go_wp2_with fail
    refine hK.out _ _ ?_ (fun hHeldH3 => ?_)
    · exact ⟨(unhide A_178).S, (unhide Av_179).S⟩
    clear hK K
    try simp only [Act.put, qqA, qqB, qqC]
    refine wpAnyH_ready (rs := [4, 8]) (by kernel_rfl) (by simp) ?_
    refine AllReadyH.cons (o := oAvw14) rfl (fun K hK => ?_) (AllReadyH.cons (o := oAvw12) rfl (fun K hK => ?_) AllReadyH.nil)
    ·
     go_simp
     refine (iaccept nb vw vh _ _ n l HN (unhide HL) HSZ nbv frv fuv vwv vhv _ _ nv lv HNv (unhide HLv) HSZv nb2 vw2 vh2 L c HIS _ (unhide HT1_184).rowV (unhide HT3_185).rowV).mono ?_
     rintro e w26 ⟨vH, rfl, hoH, hb26⟩
     have zc26 := hb26.size
     have B_186 := hide ((unhide B_177).trans (hb26.mono (unhide B_177).size))
     clear B_177
     have A_187 := hide ((unhide A_178).below hb26)
     clear A_178
     have Av_188 := hide ((unhide Av_179).below hb26)
     clear Av_179
     have W_189 := hide ((unhide W_180).below hb26 (unhide W_180).le)
     clear W_180
     have bW_190 := hide ((unhide bW_181).below hb26)
     clear bW_181
     have bG_191 := hide ((unhide bG_182).below hb26)
     clear bG_182
     have G_192 := hide ((unhide G_183).below hb26 (unhide G_183).le)
     clear G_183
     have HT1_193 := hide ((unhide HT1_184).below hb26 (unhide HT1_184).le)
     clear HT1_184
     have HT3_194 := hide ((unhide HT3_185).below hb26 (unhide HT3_185).le)
     clear HT3_185
     clear hb26
     clear HT1_193
     clear HT3_194
     obtain ⟨aH, cH, rfl, -⟩ := own_rowV hoH
     rw [unhide HNL] at hoH
     rw [unhide HNL]
     obtain ⟨loH, hiH, eloH, ehiH⟩ : ∃ lo hi, lo = w25.heap.size ∧ hi = w26.heap.size := ⟨_, _, rfl, rfl⟩
     have H_195 := hide (held_of hoH)
     rw [← eloH, ← ehiH] at H_195
     clear hoH eloH ehiH
     go_wp2_with fail
     refine hK.out _ _ ?_ (fun hHeldH4 => ?_)
     · exact ⟨(unhide A_187).S, (unhide Av_188).S⟩
     clear hK K
     try simp only [Act.put, qqA, qqB, qqC]
     refine wtk (i := 5) (oi := oAvw15) (v := ?_) rfl (Or.inl ⟨by rfl, ?_⟩) (by assumption) ?_
     rotate_left 1
     · (intro w' hSw; (try dsimp only at hSw); go_simp; try with_reducible rfl)
     try simp only [Act.put, qqA, qqB, qqC]
     refine wtk (i := 6) (oi := oAvw16) (v := ?_) rfl (Or.inl ⟨by rfl, ?_⟩) (by assumption) ?_
     rotate_left 1
     · (intro w' hSw; (try dsimp only at hSw); go_simp; try with_reducible rfl)
     try simp only [Act.put, qqA, qqB, qqC]
     refine wtk (i := 7) (oi := oAvw17) (v := ?_) rfl (Or.inl ⟨by rfl, ?_⟩) (by assumption) ?_
     rotate_left 1
     · (intro w' hSw; (try dsimp only at hSw); go_simp; try with_reducible rfl)
     try simp only [Act.put, qqA, qqB, qqC]
     refine wpAnyH_ready (rs := [8]) (by kernel_rfl) (by simp) ?_
     refine AllReadyH.cons (o := oAvw12) rfl (fun K hK => ?_) AllReadyH.nil
     obtain ⟨PH, hP⟩ : ∃ P, P = w26.heap.size := ⟨_, rfl⟩
     have zPH : w.heap.size + 1 < PH := by rw [hP]; exact (unhide Av_188).lt
     have zPHG : w11.heap.size ≤ PH := by rw [hP]; exact (unhide G_192).le
     have zPHH : hiH ≤ PH := by rw [hP]; exact (unhide H_195).le
     have zPHbW : PW < PH := by rw [hP]; exact (unhide bW_190).lt
     have zPHbG : w11.heap.size < PH := by rw [hP]; exact (unhide bG_191).lt
     have B_196 := hide ((unhide B_186).alloc (unhide B_186).size (.cells #[.int .i64 0, .int .i64 0, .int .i64 0, .slice none 0 0] 30))
     clear B_186
     have A_197 := hide ((unhide A_187).alloc (.cells #[.int .i64 0, .int .i64 0, .int .i64 0, .slice none 0 0] 30))
     clear A_187
     have Av_198 := hide ((unhide Av_188).alloc (.cells #[.int .i64 0, .int .i64 0, .int .i64 0, .slice none 0 0] 30))
     clear Av_188
     have W_199 := hide ((unhide W_189).below (Go.Joins.below_alloc1 _ (.cells #[.int .i64 0, .int .i64 0, .int .i64 0, .slice none 0 0] 30)) (unhide W_189).le)
     clear W_189
     have bW_200 := hide ((unhide bW_190).alloc (.cells #[.int .i64 0, .int .i64 0, .int .i64 0, .slice none 0 0] 30))
     clear bW_190
     have bG_201 := hide ((unhide bG_191).alloc (.cells #[.int .i64 0, .int .i64 0, .int .i64 0, .slice none 0 0] 30))
     clear bG_191
     have G_202 := hide ((unhide G_192).below (Go.Joins.below_alloc1 _ (.cells #[.int .i64 0, .int .i64 0, .int .i64 0, .slice none 0 0] 30)) (unhide G_192).le)
     clear G_192
     have H_203 := hide ((unhide H_195).below (Go.Joins.below_alloc1 _ (.cells #[.int .i64 0, .int .i64 0, .int .i64 0, .slice none 0 0] 30)) (unhide H_195).le)
     clear H_195
     have bH_204 := hide (BF.new w26 #[.int .i64 0, .int .i64 0, .int .i64 0, .slice none 0 0] 30)
     rw [← hP] at bH_204
     go_simp
     refine hK.out _ _ ?_ (fun hHeldHA => ?_)
     · exact ⟨(unhide A_197).S, (unhide Av_198).S⟩
     clear hK K
     try simp only [Act.put, qqA, qqB, qqC]
     rw [← hP]
     clear hP
     generalize w26.alloc (.cells #[.int .i64 0, .int .i64 0, .int .i64 0, .slice none 0 0] 30) = w27 at B_196 A_197 Av_198 W_199 bW_200 bG_201 G_202 H_203 bH_204 hHeldHA ⊢
     refine wpAnyH_ready (rs := [9]) (by kernel_rfl) (by simp) ?_
     refine AllReadyH.cons (o := oAvw18) rfl (fun K hK => ?_) AllReadyH.nil
     have kn := (unhide bH_204).S
     have knf := (unhide bH_204).F
     obtain ⟨w28, hw28, hF28, hg28⟩ := put4G w27 (unhide bH_204) (.int .i64 nb2) (.int .i64 vw2) (.int .i64 vh2) (.slice aH nL cH)
     have hne28 : ∀ q, q ≠ PH → (some PH : Option Nat) ≠ some q := fun q h e => h (Option.some.inj e).symm
     have B_205 := hide ((unhide B_196).grown hg28 (unhide B_196).size (fun k hk => by have e : PH = k := Option.some.inj hk; omega))
     clear B_196
     have A_206 := hide ((unhide A_197).grown hg28 (hne28 _ (by omega)))
     clear A_197
     have Av_207 := hide ((unhide Av_198).grown hg28 (hne28 _ (by omega)))
     clear Av_198
     have W_208 := hide ((unhide W_199).grown hg28 (fun k hk => by have e : PH = k := Option.some.inj hk; omega))
     clear W_199
     have bW_209 := hide ((unhide bW_200).grown hg28 (hne28 _ (by omega)))
     clear bW_200
     have bG_210 := hide ((unhide bG_201).grown hg28 (hne28 _ (by omega)))
     clear bG_201
     have G_211 := hide ((unhide G_202).grown hg28 (fun k hk => by have e : PH = k := Option.some.inj hk; omega))
     clear G_202
     have H_212 := hide ((unhide H_203).grown hg28 (fun k hk => by have e : PH = k := Option.some.inj hk; omega))
     clear H_203
     have bH_213 := hide (hF28)
     clear bH_204
     go_simp
     rw [← hw28]
     refine hK.out _ _ ?_ (fun hHeldHS => ?_)
     · exact ⟨(unhide A_206).S, (unhide Av_207).S⟩
     clear hK K
     try simp only [Act.put, qqA, qqB, qqC]
     clear kn knf hw28 hF28 hg28 hne28
     refine wtk (i := 10) (oi := oAvw19) (v := ?_) rfl (Or.inl ⟨by rfl, ?_⟩) (by assumption) ?_
     rotate_left 1
     · (intro w' hSw; (try dsimp only at hSw); go_simp; try with_reducible rfl)
     try simp only [Act.put, qqA, qqB, qqC]
     refine wpAnyH_done (by kernel_rfl) ?_ _
     have zEH : PH < w28.heap.size := (unhide bH_213).lt
     have zHH : hiH ≤ w28.heap.size := (unhide H_212).le
     have kbH := (unhide bH_213).S
     have kbW := (unhide bW_209).S
     go_wp2_with fail
     refine (eqMr nb2 vw2 vh2 aH aW cH cW nL L HNL (Nat.le_trans (unhide HN10) (by decide)) _ (unhide H_212).rowV (unhide W_208).rowV).mono ?_
     rintro e w29 ⟨rfl, hb29⟩
     clear kbH kbW
     have B_214 := hide ((unhide B_205).trans (hb29.mono (unhide B_205).size))
     clear B_205
     have A_215 := hide ((unhide A_206).below hb29)
     clear A_206
     have Av_216 := hide ((unhide Av_207).below hb29)
     clear Av_207
     have W_217 := hide ((unhide W_208).below hb29 (unhide W_208).le)
     clear W_208
     have bW_218 := hide ((unhide bW_209).below hb29)
     clear bW_209
     have bG_219 := hide ((unhide bG_210).below hb29)
     clear bG_210
     have G_220 := hide ((unhide G_211).below hb29 (unhide G_211).le)
     clear G_211
     have H_221 := hide ((unhide H_212).below hb29 (unhide H_212).le)
     clear H_212
     have bH_222 := hide ((unhide bH_213).below hb29)
     clear bH_213
     clear hb29
     have kbG := (unhide bG_219).S
     go_wp2_with fail
     refine (heldMr nb2 vw2 vh2 _ nL _ _ _ 1 q HQ (by decide) (by decide) (by have := unhide HN10; omega) _ (unhide G_220)).mono ?_
     rintro e w30 ⟨rfl, hb30⟩
     clear kbG
     have B_223 := hide ((unhide B_214).trans (hb30.mono (unhide B_214).size))
     clear B_214
     have A_224 := hide ((unhide A_215).below hb30)
     clear A_215
     have Av_225 := hide ((unhide Av_216).below hb30)
     clear Av_216
     have W_226 := hide ((unhide W_217).below hb30 (unhide W_217).le)
     clear W_217
     have bW_227 := hide ((unhide bW_218).below hb30)
     clear bW_218
     have bG_228 := hide ((unhide bG_219).below hb30)
     clear bG_219
     have G_229 := hide ((unhide G_220).below hb30 (unhide G_220).le)
     clear G_220
     have H_230 := hide ((unhide H_221).below hb30 (unhide H_221).le)
     clear H_221
     have bH_231 := hide ((unhide bH_222).below hb30)
     clear bH_222
     clear hb30
     go_wp2_with fail
     go_ret
     exact ⟨rfl, (unhide B_223)⟩
    ·
     obtain ⟨PH, hP⟩ : ∃ P, P = w25.heap.size := ⟨_, rfl⟩
     have zPH : w.heap.size + 1 < PH := by rw [hP]; exact (unhide Av_179).lt
     have zPHG : w11.heap.size ≤ PH := by rw [hP]; exact (unhide G_183).le
     have zPHbW : PW < PH := by rw [hP]; exact (unhide bW_181).lt
     have zPHbG : w11.heap.size < PH := by rw [hP]; exact (unhide bG_182).lt
     have B_186 := hide ((unhide B_177).alloc (unhide B_177).size (.cells #[.int .i64 0, .int .i64 0, .int .i64 0, .slice none 0 0] 30))
     clear B_177
     have A_187 := hide ((unhide A_178).alloc (.cells #[.int .i64 0, .int .i64 0, .int .i64 0, .slice none 0 0] 30))
     clear A_178
     have Av_188 := hide ((unhide Av_179).alloc (.cells #[.int .i64 0, .int .i64 0, .int .i64 0, .slice none 0 0] 30))
     clear Av_179
     have W_189 := hide ((unhide W_180).below (Go.Joins.below_alloc1 _ (.cells #[.int .i64 0, .int .i64 0, .int .i64 0, .slice none 0 0] 30)) (unhide W_180).le)
     clear W_180
     have bW_190 := hide ((unhide bW_181).alloc (.cells #[.int .i64 0, .int .i64 0, .int .i64 0, .slice none 0 0] 30))
     clear bW_181
     have bG_191 := hide ((unhide bG_182).alloc (.cells #[.int .i64 0, .int .i64 0, .int .i64 0, .slice none 0 0] 30))
     clear bG_182
     have G_192 := hide ((unhide G_183).below (Go.Joins.below_alloc1 _ (.cells #[.int .i64 0, .int .i64 0, .int .i64 0, .slice none 0 0] 30)) (unhide G_183).le)
     clear G_183
     have HT1_193 := hide ((unhide HT1_184).below (Go.Joins.below_alloc1 _ (.cells #[.int .i64 0, .int .i64 0, .int .i64 0, .slice none 0 0] 30)) (unhide HT1_184).le)
     clear HT1_184
     have HT3_194 := hide ((unhide HT3_185).below (Go.Joins.below_alloc1 _ (.cells #[.int .i64 0, .int .i64 0, .int .i64 0, .slice none 0 0] 30)) (unhide HT3_185).le)
     clear HT3_185
     have bH_195 := hide (BF.new w25 #[.int .i64 0, .int .i64 0, .int .i64 0, .slice none 0 0] 30)
     rw [← hP] at bH_195
     go_simp
     refine hK.out _ _ ?_ (fun hHeldHA => ?_)
     · exact ⟨(unhide A_187).S, (unhide Av_188).S⟩
     clear hK K
     try simp only [Act.put, qqA, qqB, qqC]
     rw [← hP]
     clear hP
     generalize w25.alloc (.cells #[.int .i64 0, .int .i64 0, .int .i64 0, .slice none 0 0] 30) = w26 at B_186 A_187 Av_188 W_189 bW_190 bG_191 G_192 HT1_193 HT3_194 bH_195 hHeldHA ⊢
     refine wpAnyH_ready (rs := [4]) (by kernel_rfl) (by simp) ?_
     refine AllReadyH.cons (o := oAvw14) rfl (fun K hK => ?_) AllReadyH.nil
     have HPLH : Hid (PH < w26.heap.size) := (unhide bH_195).lt
     go_simp
     refine (iaccept nb vw vh _ _ n l HN (unhide HL) HSZ nbv frv fuv vwv vhv _ _ nv lv HNv (unhide HLv) HSZv nb2 vw2 vh2 L c HIS _ (unhide HT1_193).rowV (unhide HT3_194).rowV).mono ?_
     rintro e w27 ⟨vH, rfl, hoH, hb27⟩
     have zc27 := hb27.size
     have B_196 := hide ((unhide B_186).trans (hb27.mono (unhide B_186).size))
     clear B_186
     have A_197 := hide ((unhide A_187).below hb27)
     clear A_187
     have Av_198 := hide ((unhide Av_188).below hb27)
     clear Av_188
     have W_199 := hide ((unhide W_189).below hb27 (unhide W_189).le)
     clear W_189
     have bW_200 := hide ((unhide bW_190).below hb27)
     clear bW_190
     have bG_201 := hide ((unhide bG_191).below hb27)
     clear bG_191
     have G_202 := hide ((unhide G_192).below hb27 (unhide G_192).le)
     clear G_192
     have HT1_203 := hide ((unhide HT1_193).below hb27 (unhide HT1_193).le)
     clear HT1_193
     have HT3_204 := hide ((unhide HT3_194).below hb27 (unhide HT3_194).le)
     clear HT3_194
     have bH_205 := hide ((unhide bH_195).below hb27)
     clear bH_195
     clear hb27
     clear HT1_203
     clear HT3_204
     obtain ⟨aH, cH, rfl, -⟩ := own_rowV hoH
     rw [unhide HNL] at hoH
     rw [unhide HNL]
     obtain ⟨loH, hiH, eloH, ehiH⟩ : ∃ lo hi, lo = w26.heap.size ∧ hi = w27.heap.size := ⟨_, _, rfl, rfl⟩
     have H_206 := hide (held_of hoH)
     rw [← eloH, ← ehiH] at H_206
     have zPHr : PH < loH := by rw [eloH]; exact unhide HPLH
     clear hoH eloH ehiH
     go_wp2_with fail
     refine hK.out _ _ ?_ (fun hHeldH4 => ?_)
     · exact ⟨(unhide A_197).S, (unhide Av_198).S⟩
     clear hK K
     try simp only [Act.put, qqA, qqB, qqC]
     refine wtk (i := 5) (oi := oAvw15) (v := ?_) rfl (Or.inl ⟨by rfl, ?_⟩) (by assumption) ?_
     rotate_left 1
     · (intro w' hSw; (try dsimp only at hSw); go_simp; try with_reducible rfl)
     try simp only [Act.put, qqA, qqB, qqC]
     refine wtk (i := 6) (oi := oAvw16) (v := ?_) rfl (Or.inl ⟨by rfl, ?_⟩) (by assumption) ?_
     rotate_left 1
     · (intro w' hSw; (try dsimp only at hSw); go_simp; try with_reducible rfl)
     try simp only [Act.put, qqA, qqB, qqC]
     refine wtk (i := 7) (oi := oAvw17) (v := ?_) rfl (Or.inl ⟨by rfl, ?_⟩) (by assumption) ?_
     rotate_left 1
     · (intro w' hSw; (try dsimp only at hSw); go_simp; try with_reducible rfl)
     try simp only [Act.put, qqA, qqB, qqC]
     refine wpAnyH_ready (rs := [9]) (by kernel_rfl) (by simp) ?_
     refine AllReadyH.cons (o := oAvw18) rfl (fun K hK => ?_) AllReadyH.nil
     have kn := (unhide bH_205).S
     have knf := (unhide bH_205).F
     obtain ⟨w28, hw28, hF28, hg28⟩ := put4G w27 (unhide bH_205) (.int .i64 nb2) (.int .i64 vw2) (.int .i64 vh2) (.slice aH nL cH)
     have hne28 : ∀ q, q ≠ PH → (some PH : Option Nat) ≠ some q := fun q h e => h (Option.some.inj e).symm
     have B_207 := hide ((unhide B_196).grown hg28 (unhide B_196).size (fun k hk => by have e : PH = k := Option.some.inj hk; omega))
     clear B_196
     have A_208 := hide ((unhide A_197).grown hg28 (hne28 _ (by omega)))
     clear A_197
     have Av_209 := hide ((unhide Av_198).grown hg28 (hne28 _ (by omega)))
     clear Av_198
     have W_210 := hide ((unhide W_199).grown hg28 (fun k hk => by have e : PH = k := Option.some.inj hk; omega))
     clear W_199
     have bW_211 := hide ((unhide bW_200).grown hg28 (hne28 _ (by omega)))
     clear bW_200
     have bG_212 := hide ((unhide bG_201).grown hg28 (hne28 _ (by omega)))
     clear bG_201
     have G_213 := hide ((unhide G_202).grown hg28 (fun k hk => by have e : PH = k := Option.some.inj hk; omega))
     clear G_202
     have H_214 := hide ((unhide H_206).grown hg28 (fun k hk => by have e : PH = k := Option.some.inj hk; omega))
     clear H_206
     have bH_215 := hide (hF28)
     clear bH_205
     go_simp
     rw [← hw28]
     refine hK.out _ _ ?_ (fun hHeldHS => ?_)
     · exact ⟨(unhide A_208).S, (unhide Av_209).S⟩
     clear hK K
     try simp only [Act.put, qqA, qqB, qqC]
     clear kn knf hw28 hF28 hg28 hne28
     refine wtk (i := 10) (oi := oAvw19) (v := ?_) rfl (Or.inl ⟨by rfl, ?_⟩) (by assumption) ?_
     rotate_left 1
     · (intro w' hSw; (try dsimp only at hSw); go_simp; try with_reducible rfl)
     try simp only [Act.put, qqA, qqB, qqC]
     refine wpAnyH_done (by kernel_rfl) ?_ _
     have zEH : PH < w28.heap.size := (unhide bH_215).lt
     have zHH : hiH ≤ w28.heap.size := (unhide H_214).le
     have kbH := (unhide bH_215).S
     have kbW := (unhide bW_211).S
     go_wp2_with fail
     refine (eqMr nb2 vw2 vh2 aH aW cH cW nL L HNL (Nat.le_trans (unhide HN10) (by decide)) _ (unhide H_214).rowV (unhide W_210).rowV).mono ?_
     rintro e w29 ⟨rfl, hb29⟩
     clear kbH kbW
     have B_216 := hide ((unhide B_207).trans (hb29.mono (unhide B_207).size))
     clear B_207
     have A_217 := hide ((unhide A_208).below hb29)
     clear A_208
     have Av_218 := hide ((unhide Av_209).below hb29)
     clear Av_209
     have W_219 := hide ((unhide W_210).below hb29 (unhide W_210).le)
     clear W_210
     have bW_220 := hide ((unhide bW_211).below hb29)
     clear bW_211
     have bG_221 := hide ((unhide bG_212).below hb29)
     clear bG_212
     have G_222 := hide ((unhide G_213).below hb29 (unhide G_213).le)
     clear G_213
     have H_223 := hide ((unhide H_214).below hb29 (unhide H_214).le)
     clear H_214
     have bH_224 := hide ((unhide bH_215).below hb29)
     clear bH_215
     clear hb29
     have kbG := (unhide bG_221).S
     go_wp2_with fail
     refine (heldMr nb2 vw2 vh2 _ nL _ _ _ 1 q HQ (by decide) (by decide) (by have := unhide HN10; omega) _ (unhide G_222)).mono ?_
     rintro e w30 ⟨rfl, hb30⟩
     clear kbG
     have B_225 := hide ((unhide B_216).trans (hb30.mono (unhide B_216).size))
     clear B_216
     have A_226 := hide ((unhide A_217).below hb30)
     clear A_217
     have Av_227 := hide ((unhide Av_218).below hb30)
     clear Av_218
     have W_228 := hide ((unhide W_219).below hb30 (unhide W_219).le)
     clear W_219
     have bW_229 := hide ((unhide bW_220).below hb30)
     clear bW_220
     have bG_230 := hide ((unhide bG_221).below hb30)
     clear bG_221
     have G_231 := hide ((unhide G_222).below hb30 (unhide G_222).le)
     clear G_222
     have H_232 := hide ((unhide H_223).below hb30 (unhide H_223).le)
     clear H_223
     have bH_233 := hide ((unhide bH_224).below hb30)
     clear bH_224
     clear hb30
     go_wp2_with fail
     go_ret
     exact ⟨rfl, (unhide B_225)⟩
   ·
    obtain ⟨PH, hP⟩ : ∃ P, P = w24.heap.size := ⟨_, rfl⟩
    have zPH : w.heap.size + 1 < PH := by rw [hP]; exact (unhide Av_171).lt
    have zPHG : w11.heap.size ≤ PH := by rw [hP]; exact (unhide G_175).le
    have zPHbW : PW < PH := by rw [hP]; exact (unhide bW_173).lt
    have zPHbG : w11.heap.size < PH := by rw [hP]; exact (unhide bG_174).lt
    have B_177 := hide ((unhide B_169).alloc (unhide B_169).size (.cells #[.int .i64 0, .int .i64 0, .int .i64 0, .slice none 0 0] 30))
    clear B_169
    have A_178 := hide ((unhide A_170).alloc (.cells #[.int .i64 0, .int .i64 0, .int .i64 0, .slice none 0 0] 30))
    clear A_170
    have Av_179 := hide ((unhide Av_171).alloc (.cells #[.int .i64 0, .int .i64 0, .int .i64 0, .slice none 0 0] 30))
    clear Av_171
    have W_180 := hide ((unhide W_172).below (Go.Joins.below_alloc1 _ (.cells #[.int .i64 0, .int .i64 0, .int .i64 0, .slice none 0 0] 30)) (unhide W_172).le)
    clear W_172
    have bW_181 := hide ((unhide bW_173).alloc (.cells #[.int .i64 0, .int .i64 0, .int .i64 0, .slice none 0 0] 30))
    clear bW_173
    have bG_182 := hide ((unhide bG_174).alloc (.cells #[.int .i64 0, .int .i64 0, .int .i64 0, .slice none 0 0] 30))
    clear bG_174
    have G_183 := hide ((unhide G_175).below (Go.Joins.below_alloc1 _ (.cells #[.int .i64 0, .int .i64 0, .int .i64 0, .slice none 0 0] 30)) (unhide G_175).le)
    clear G_175
    have HT1_184 := hide ((unhide HT1_176).below (Go.Joins.below_alloc1 _ (.cells #[.int .i64 0, .int .i64 0, .int .i64 0, .slice none 0 0] 30)) (unhide HT1_176).le)
    clear HT1_176
    have bH_185 := hide (BF.new w24 #[.int .i64 0, .int .i64 0, .int .i64 0, .slice none 0 0] 30)
    rw [← hP] at bH_185
    go_simp
    refine hK.out _ _ ?_ (fun hHeldHA => ?_)
    · exact ⟨(unhide A_178).S, (unhide Av_179).S⟩
    clear hK K
    try simp only [Act.put, qqA, qqB, qqC]
    rw [← hP]
    clear hP
    generalize w24.alloc (.cells #[.int .i64 0, .int .i64 0, .int .i64 0, .slice none 0 0] 30) = w25 at B_177 A_178 Av_179 W_180 bW_181 bG_182 G_183 HT1_184 bH_185 hHeldHA ⊢
    refine wpAnyH_ready (rs := [3]) (by kernel_rfl) (by simp) ?_
    refine AllReadyH.cons (o := oAvw13) rfl (fun K hK => ?_) AllReadyH.nil
    go_simp
    refine (toVw nbv frv vwv vhv fuv av capv nv lv HNv (unhide HLv) _ ((unhide HRv).below (unhide B_177))).mono ?_
    rintro e w26 ⟨g26, rfl, o26, hb26⟩
    have zc26 := hb26.size
    have B_186 := hide ((unhide B_177).trans (hb26.mono (unhide B_177).size))
    clear B_177
    have A_187 := hide ((unhide A_178).below hb26)
    clear A_178
    have Av_188 := hide ((unhide Av_179).below hb26)
    clear Av_179
    have W_189 := hide ((unhide W_180).below hb26 (unhide W_180).le)
    clear W_180
    have bW_190 := hide ((unhide bW_181).below hb26)
    clear bW_181
    have bG_191 := hide ((unhide bG_182).below hb26)
    clear bG_182
    have G_192 := hide ((unhide G_183).below hb26 (unhide G_183).le)
    clear G_183
    have HT1_193 := hide ((unhide HT1_184).below hb26 (unhide HT1_184).le)
    clear HT1_184
    have bH_194 := hide ((unhide bH_185).below hb26)
    clear bH_185
    clear hb26
    have HT3_195 := hide (heldZ_of o26)
    clear o26
    go_wp2_with fail
    refine hK.out _ _ ?_ (fun hHeldH3 => ?_)
    · exact ⟨(unhide A_187).S, (unhide Av_188).S⟩
    clear hK K
    try simp only [Act.put, qqA, qqB, qqC]
    refine wpAnyH_ready (rs := [4]) (by kernel_rfl) (by simp) ?_
    refine AllReadyH.cons (o := oAvw14) rfl (fun K hK => ?_) AllReadyH.nil
    have HPLH : Hid (PH < w26.heap.size) := (unhide bH_194).lt
    go_simp
    refine (iaccept nb vw vh _ _ n l HN (unhide HL) HSZ nbv frv fuv vwv vhv _ _ nv lv HNv (unhide HLv) HSZv nb2 vw2 vh2 L c HIS _ (unhide HT1_193).rowV (unhide HT3_195).rowV).mono ?_
    rintro e w27 ⟨vH, rfl, hoH, hb27⟩
    have zc27 := hb27.size
    have B_196 := hide ((unhide B_186).trans (hb27.mono (unhide B_186).size))
    clear B_186
    have A_197 := hide ((unhide A_187).below hb27)
    clear A_187
    have Av_198 := hide ((unhide Av_188).below hb27)
    clear Av_188
    have W_199 := hide ((unhide W_189).below hb27 (unhide W_189).le)
    clear W_189
    have bW_200 := hide ((unhide bW_190).below hb27)
    clear bW_190
    have bG_201 := hide ((unhide bG_191).below hb27)
    clear bG_191
    have G_202 := hide ((unhide G_192).below hb27 (unhide G_192).le)
    clear G_192
    have HT1_203 := hide ((unhide HT1_193).below hb27 (unhide HT1_193).le)
    clear HT1_193
    have bH_204 := hide ((unhide bH_194).below hb27)
    clear bH_194
    have HT3_205 := hide ((unhide HT3_195).below hb27 (unhide HT3_195).le)
    clear HT3_195
    clear hb27
    clear HT1_203
    clear HT3_205
    obtain ⟨aH, cH, rfl, -⟩ := own_rowV hoH
    rw [unhide HNL] at hoH
    rw [unhide HNL]
    obtain ⟨loH, hiH, eloH, ehiH⟩ : ∃ lo hi, lo = w26.heap.size ∧ hi = w27.heap.size := ⟨_, _, rfl, rfl⟩
    have H_206 := hide (held_of hoH)
    rw [← eloH, ← ehiH] at H_206
    have zPHr : PH < loH := by rw [eloH]; exact unhide HPLH
    clear hoH eloH ehiH
    go_wp2_with fail
    refine hK.out _ _ ?_ (fun hHeldH4 => ?_)
    · exact ⟨(unhide A_197).S, (unhide Av_198).S⟩
    clear hK K
    try simp only [Act.put, qqA, qqB, qqC]
    refine wtk (i := 5) (oi := oAvw15) (v := ?_) rfl (Or.inl ⟨by rfl, ?_⟩) (by assumption) ?_
    rotate_left 1
    · (intro w' hSw; (try dsimp only at hSw); go_simp; try with_reducible rfl)
    try simp only [Act.put, qqA, qqB, qqC]
    refine wtk (i := 6) (oi := oAvw16) (v := ?_) rfl (Or.inl ⟨by rfl, ?_⟩) (by assumption) ?_
    rotate_left 1
    · (intro w' hSw; (try dsimp only at hSw); go_simp; try with_reducible rfl)
    try simp only [Act.put, qqA, qqB, qqC]
    refine wtk (i := 7) (oi := oAvw17) (v := ?_) rfl (Or.inl ⟨by rfl, ?_⟩) (by assumption) ?_
    rotate_left 1
    · (intro w' hSw; (try dsimp only at hSw); go_simp; try with_reducible rfl)
    try simp only [Act.put, qqA, qqB, qqC]
    refine wpAnyH_ready (rs := [9]) (by kernel_rfl) (by simp) ?_
    refine AllReadyH.cons (o := oAvw18) rfl (fun K hK => ?_) AllReadyH.nil
    have kn := (unhide bH_204).S
    have knf := (unhide bH_204).F
    obtain ⟨w28, hw28, hF28, hg28⟩ := put4G w27 (unhide bH_204) (.int .i64 nb2) (.int .i64 vw2) (.int .i64 vh2) (.slice aH nL cH)
    have hne28 : ∀ q, q ≠ PH → (some PH : Option Nat) ≠ some q := fun q h e => h (Option.some.inj e).symm
    have B_207 := hide ((unhide B_196).grown hg28 (unhide B_196).size (fun k hk => by have e : PH = k := Option.some.inj hk; omega))
    clear B_196
    have A_208 := hide ((unhide A_197).grown hg28 (hne28 _ (by omega)))
    clear A_197
    have Av_209 := hide ((unhide Av_198).grown hg28 (hne28 _ (by omega)))
    clear Av_198
    have W_210 := hide ((unhide W_199).grown hg28 (fun k hk => by have e : PH = k := Option.some.inj hk; omega))
    clear W_199
    have bW_211 := hide ((unhide bW_200).grown hg28 (hne28 _ (by omega)))
    clear bW_200
    have bG_212 := hide ((unhide bG_201).grown hg28 (hne28 _ (by omega)))
    clear bG_201
    have G_213 := hide ((unhide G_202).grown hg28 (fun k hk => by have e : PH = k := Option.some.inj hk; omega))
    clear G_202
    have H_214 := hide ((unhide H_206).grown hg28 (fun k hk => by have e : PH = k := Option.some.inj hk; omega))
    clear H_206
    have bH_215 := hide (hF28)
    clear bH_204
    go_simp
    rw [← hw28]
    refine hK.out _ _ ?_ (fun hHeldHS => ?_)
    · exact ⟨(unhide A_208).S, (unhide Av_209).S⟩
    clear hK K
    try simp only [Act.put, qqA, qqB, qqC]
    clear kn knf hw28 hF28 hg28 hne28
    refine wtk (i := 10) (oi := oAvw19) (v := ?_) rfl (Or.inl ⟨by rfl, ?_⟩) (by assumption) ?_
    rotate_left 1
    · (intro w' hSw; (try dsimp only at hSw); go_simp; try with_reducible rfl)
    try simp only [Act.put, qqA, qqB, qqC]
    refine wpAnyH_done (by kernel_rfl) ?_ _
    have zEH : PH < w28.heap.size := (unhide bH_215).lt
    have zHH : hiH ≤ w28.heap.size := (unhide H_214).le
    have kbH := (unhide bH_215).S
    have kbW := (unhide bW_211).S
    go_wp2_with fail
    refine (eqMr nb2 vw2 vh2 aH aW cH cW nL L HNL (Nat.le_trans (unhide HN10) (by decide)) _ (unhide H_214).rowV (unhide W_210).rowV).mono ?_
    rintro e w29 ⟨rfl, hb29⟩
    clear kbH kbW
    have B_216 := hide ((unhide B_207).trans (hb29.mono (unhide B_207).size))
    clear B_207
    have A_217 := hide ((unhide A_208).below hb29)
    clear A_208
    have Av_218 := hide ((unhide Av_209).below hb29)
    clear Av_209
    have W_219 := hide ((unhide W_210).below hb29 (unhide W_210).le)
    clear W_210
    have bW_220 := hide ((unhide bW_211).below hb29)
    clear bW_211
    have bG_221 := hide ((unhide bG_212).below hb29)
    clear bG_212
    have G_222 := hide ((unhide G_213).below hb29 (unhide G_213).le)
    clear G_213
    have H_223 := hide ((unhide H_214).below hb29 (unhide H_214).le)
    clear H_214
    have bH_224 := hide ((unhide bH_215).below hb29)
    clear bH_215
    clear hb29
    have kbG := (unhide bG_221).S
    go_wp2_with fail
    refine (heldMr nb2 vw2 vh2 _ nL _ _ _ 1 q HQ (by decide) (by decide) (by have := unhide HN10; omega) _ (unhide G_222)).mono ?_
    rintro e w30 ⟨rfl, hb30⟩
    clear kbG
    have B_225 := hide ((unhide B_216).trans (hb30.mono (unhide B_216).size))
    clear B_216
    have A_226 := hide ((unhide A_217).below hb30)
    clear A_217
    have Av_227 := hide ((unhide Av_218).below hb30)
    clear Av_218
    have W_228 := hide ((unhide W_219).below hb30 (unhide W_219).le)
    clear W_219
    have bW_229 := hide ((unhide bW_220).below hb30)
    clear bW_220
    have bG_230 := hide ((unhide bG_221).below hb30)
    clear bG_221
    have G_231 := hide ((unhide G_222).below hb30 (unhide G_222).le)
    clear G_222
    have H_232 := hide ((unhide H_223).below hb30 (unhide H_223).le)
    clear H_223
    have bH_233 := hide ((unhide bH_224).below hb30)
    clear bH_224
    clear hb30
    go_wp2_with fail
    go_ret
    exact ⟨rfl, (unhide B_225)⟩
  ·
   obtain ⟨PH, hP⟩ : ∃ P, P = w23.heap.size := ⟨_, rfl⟩
   have zPH : w.heap.size + 1 < PH := by rw [hP]; exact (unhide Av_164).lt
   have zPHG : w11.heap.size ≤ PH := by rw [hP]; exact (unhide G_168).le
   have zPHbW : PW < PH := by rw [hP]; exact (unhide bW_166).lt
   have zPHbG : w11.heap.size < PH := by rw [hP]; exact (unhide bG_167).lt
   have B_169 := hide ((unhide B_162).alloc (unhide B_162).size (.cells #[.int .i64 0, .int .i64 0, .int .i64 0, .slice none 0 0] 30))
   clear B_162
   have A_170 := hide ((unhide A_163).alloc (.cells #[.int .i64 0, .int .i64 0, .int .i64 0, .slice none 0 0] 30))
   clear A_163
   have Av_171 := hide ((unhide Av_164).alloc (.cells #[.int .i64 0, .int .i64 0, .int .i64 0, .slice none 0 0] 30))
   clear Av_164
   have W_172 := hide ((unhide W_165).below (Go.Joins.below_alloc1 _ (.cells #[.int .i64 0, .int .i64 0, .int .i64 0, .slice none 0 0] 30)) (unhide W_165).le)
   clear W_165
   have bW_173 := hide ((unhide bW_166).alloc (.cells #[.int .i64 0, .int .i64 0, .int .i64 0, .slice none 0 0] 30))
   clear bW_166
   have bG_174 := hide ((unhide bG_167).alloc (.cells #[.int .i64 0, .int .i64 0, .int .i64 0, .slice none 0 0] 30))
   clear bG_167
   have G_175 := hide ((unhide G_168).below (Go.Joins.below_alloc1 _ (.cells #[.int .i64 0, .int .i64 0, .int .i64 0, .slice none 0 0] 30)) (unhide G_168).le)
   clear G_168
   have bH_176 := hide (BF.new w23 #[.int .i64 0, .int .i64 0, .int .i64 0, .slice none 0 0] 30)
   rw [← hP] at bH_176
   go_simp
   refine hK.out _ _ ?_ (fun hHeldHA => ?_)
   · exact ⟨(unhide A_170).S, (unhide Av_171).S⟩
   clear hK K
   try simp only [Act.put, qqA, qqB, qqC]
   rw [← hP]
   clear hP
   generalize w23.alloc (.cells #[.int .i64 0, .int .i64 0, .int .i64 0, .slice none 0 0] 30) = w24 at B_169 A_170 Av_171 W_172 bW_173 bG_174 G_175 bH_176 hHeldHA ⊢
   refine wpAnyH_ready (rs := [1]) (by kernel_rfl) (by simp) ?_
   refine AllReadyH.cons (o := oAvw11) rfl (fun K hK => ?_) AllReadyH.nil
   go_simp
   refine (toMr nb vw vh a cap n l HN (unhide HL) _ ((unhide HR).below (unhide B_169))).mono ?_
   rintro e w25 ⟨g25, rfl, o25, hb25⟩
   have zc25 := hb25.size
   have B_177 := hide ((unhide B_169).trans (hb25.mono (unhide B_169).size))
   clear B_169
   have A_178 := hide ((unhide A_170).below hb25)
   clear A_170
   have Av_179 := hide ((unhide Av_171).below hb25)
   clear Av_171
   have W_180 := hide ((unhide W_172).below hb25 (unhide W_172).le)
   clear W_172
   have bW_181 := hide ((unhide bW_173).below hb25)
   clear bW_173
   have bG_182 := hide ((unhide bG_174).below hb25)
   clear bG_174
   have G_183 := hide ((unhide G_175).below hb25 (unhide G_175).le)
   clear G_175
   have bH_184 := hide ((unhide bH_176).below hb25)
   clear bH_176
   clear hb25
   have HT1_185 := hide (held_of o25)
   clear o25
   go_wp2_with fail
   refine hK.out _ _ ?_ (fun hHeldH1 => ?_)
   · exact ⟨(unhide A_178).S, (unhide Av_179).S⟩
   clear hK K
   try simp only [Act.put, qqA, qqB, qqC]
   refine wpAnyH_ready (rs := [3]) (by kernel_rfl) (by simp) ?_
   refine AllReadyH.cons (o := oAvw13) rfl (fun K hK => ?_) AllReadyH.nil
   go_simp
   refine (toVw nbv frv vwv vhv fuv av capv nv lv HNv (unhide HLv) _ ((unhide HRv).below (unhide B_177))).mono ?_
   rintro e w26 ⟨g26, rfl, o26, hb26⟩
   have zc26 := hb26.size
   have B_186 := hide ((unhide B_177).trans (hb26.mono (unhide B_177).size))
   clear B_177
   have A_187 := hide ((unhide A_178).below hb26)
   clear A_178
   have Av_188 := hide ((unhide Av_179).below hb26)
   clear Av_179
   have W_189 := hide ((unhide W_180).below hb26 (unhide W_180).le)
   clear W_180
   have bW_190 := hide ((unhide bW_181).below hb26)
   clear bW_181
   have bG_191 := hide ((unhide bG_182).below hb26)
   clear bG_182
   have G_192 := hide ((unhide G_183).below hb26 (unhide G_183).le)
   clear G_183
   have bH_193 := hide ((unhide bH_184).below hb26)
   clear bH_184
   have HT1_194 := hide ((unhide HT1_185).below hb26 (unhide HT1_185).le)
   clear HT1_185
   clear hb26
   have HT3_195 := hide (heldZ_of o26)
   clear o26
   go_wp2_with fail
   refine hK.out _ _ ?_ (fun hHeldH3 => ?_)
   · exact ⟨(unhide A_187).S, (unhide Av_188).S⟩
   clear hK K
   try simp only [Act.put, qqA, qqB, qqC]
   refine wpAnyH_ready (rs := [4]) (by kernel_rfl) (by simp) ?_
   refine AllReadyH.cons (o := oAvw14) rfl (fun K hK => ?_) AllReadyH.nil
   have HPLH : Hid (PH < w26.heap.size) := (unhide bH_193).lt
   go_simp
   refine (iaccept nb vw vh _ _ n l HN (unhide HL) HSZ nbv frv fuv vwv vhv _ _ nv lv HNv (unhide HLv) HSZv nb2 vw2 vh2 L c HIS _ (unhide HT1_194).rowV (unhide HT3_195).rowV).mono ?_
   rintro e w27 ⟨vH, rfl, hoH, hb27⟩
   have zc27 := hb27.size
   have B_196 := hide ((unhide B_186).trans (hb27.mono (unhide B_186).size))
   clear B_186
   have A_197 := hide ((unhide A_187).below hb27)
   clear A_187
   have Av_198 := hide ((unhide Av_188).below hb27)
   clear Av_188
   have W_199 := hide ((unhide W_189).below hb27 (unhide W_189).le)
   clear W_189
   have bW_200 := hide ((unhide bW_190).below hb27)
   clear bW_190
   have bG_201 := hide ((unhide bG_191).below hb27)
   clear bG_191
   have G_202 := hide ((unhide G_192).below hb27 (unhide G_192).le)
   clear G_192
   have bH_203 := hide ((unhide bH_193).below hb27)
   clear bH_193
   have HT1_204 := hide ((unhide HT1_194).below hb27 (unhide HT1_194).le)
   clear HT1_194
   have HT3_205 := hide ((unhide HT3_195).below hb27 (unhide HT3_195).le)
   clear HT3_195
   clear hb27
   clear HT1_204
   clear HT3_205
   obtain ⟨aH, cH, rfl, -⟩ := own_rowV hoH
   rw [unhide HNL] at hoH
   rw [unhide HNL]
   obtain ⟨loH, hiH, eloH, ehiH⟩ : ∃ lo hi, lo = w26.heap.size ∧ hi = w27.heap.size := ⟨_, _, rfl, rfl⟩
   have H_206 := hide (held_of hoH)
   rw [← eloH, ← ehiH] at H_206
   have zPHr : PH < loH := by rw [eloH]; exact unhide HPLH
   clear hoH eloH ehiH
   go_wp2_with fail
   refine hK.out _ _ ?_ (fun hHeldH4 => ?_)
   · exact ⟨(unhide A_197).S, (unhide Av_198).S⟩
   clear hK K
   try simp only [Act.put, qqA, qqB, qqC]
   refine wtk (i := 5) (oi := oAvw15) (v := ?_) rfl (Or.inl ⟨by rfl, ?_⟩) (by assumption) ?_
   rotate_left 1
   · (intro w' hSw; (try dsimp only at hSw); go_simp; try with_reducible rfl)
   try simp only [Act.put, qqA, qqB, qqC]
   refine wtk (i := 6) (oi := oAvw16) (v := ?_) rfl (Or.inl ⟨by rfl, ?_⟩) (by assumption) ?_
   rotate_left 1
   · (intro w' hSw; (try dsimp only at hSw); go_simp; try with_reducible rfl)
   try simp only [Act.put, qqA, qqB, qqC]
   refine wtk (i := 7) (oi := oAvw17) (v := ?_) rfl (Or.inl ⟨by rfl, ?_⟩) (by assumption) ?_
   rotate_left 1
   · (intro w' hSw; (try dsimp only at hSw); go_simp; try with_reducible rfl)
   try simp only [Act.put, qqA, qqB, qqC]
   refine wpAnyH_ready (rs := [9]) (by kernel_rfl) (by simp) ?_
   refine AllReadyH.cons (o := oAvw18) rfl (fun K hK => ?_) AllReadyH.nil
   have kn := (unhide bH_203).S
   have knf := (unhide bH_203).F
   obtain ⟨w28, hw28, hF28, hg28⟩ := put4G w27 (unhide bH_203) (.int .i64 nb2) (.int .i64 vw2) (.int .i64 vh2) (.slice aH nL cH)
   have hne28 : ∀ q, q ≠ PH → (some PH : Option Nat) ≠ some q := fun q h e => h (Option.some.inj e).symm
   have B_207 := hide ((unhide B_196).grown hg28 (unhide B_196).size (fun k hk => by have e : PH = k := Option.some.inj hk; omega))
   clear B_196
   have A_208 := hide ((unhide A_197).grown hg28 (hne28 _ (by omega)))
   clear A_197
   have Av_209 := hide ((unhide Av_198).grown hg28 (hne28 _ (by omega)))
   clear Av_198
   have W_210 := hide ((unhide W_199).grown hg28 (fun k hk => by have e : PH = k := Option.some.inj hk; omega))
   clear W_199
   have bW_211 := hide ((unhide bW_200).grown hg28 (hne28 _ (by omega)))
   clear bW_200
   have bG_212 := hide ((unhide bG_201).grown hg28 (hne28 _ (by omega)))
   clear bG_201
   have G_213 := hide ((unhide G_202).grown hg28 (fun k hk => by have e : PH = k := Option.some.inj hk; omega))
   clear G_202
   have H_214 := hide ((unhide H_206).grown hg28 (fun k hk => by have e : PH = k := Option.some.inj hk; omega))
   clear H_206
   have bH_215 := hide (hF28)
   clear bH_203
   go_simp
   rw [← hw28]
   refine hK.out _ _ ?_ (fun hHeldHS => ?_)
   · exact ⟨(unhide A_208).S, (unhide Av_209).S⟩
   clear hK K
   try simp only [Act.put, qqA, qqB, qqC]
   clear kn knf hw28 hF28 hg28 hne28
   refine wtk (i := 10) (oi := oAvw19) (v := ?_) rfl (Or.inl ⟨by rfl, ?_⟩) (by assumption) ?_
   rotate_left 1
   · (intro w' hSw; (try dsimp only at hSw); go_simp; try with_reducible rfl)
   try simp only [Act.put, qqA, qqB, qqC]
   refine wpAnyH_done (by kernel_rfl) ?_ _
   have zEH : PH < w28.heap.size := (unhide bH_215).lt
   have zHH : hiH ≤ w28.heap.size := (unhide H_214).le
   have kbH := (unhide bH_215).S
   have kbW := (unhide bW_211).S
   go_wp2_with fail
   refine (eqMr nb2 vw2 vh2 aH aW cH cW nL L HNL (Nat.le_trans (unhide HN10) (by decide)) _ (unhide H_214).rowV (unhide W_210).rowV).mono ?_
   rintro e w29 ⟨rfl, hb29⟩
   clear kbH kbW
   have B_216 := hide ((unhide B_207).trans (hb29.mono (unhide B_207).size))
   clear B_207
   have A_217 := hide ((unhide A_208).below hb29)
   clear A_208
   have Av_218 := hide ((unhide Av_209).below hb29)
   clear Av_209
   have W_219 := hide ((unhide W_210).below hb29 (unhide W_210).le)
   clear W_210
   have bW_220 := hide ((unhide bW_211).below hb29)
   clear bW_211
   have bG_221 := hide ((unhide bG_212).below hb29)
   clear bG_212
   have G_222 := hide ((unhide G_213).below hb29 (unhide G_213).le)
   clear G_213
   have H_223 := hide ((unhide H_214).below hb29 (unhide H_214).le)
   clear H_214
   have bH_224 := hide ((unhide bH_215).below hb29)
   clear bH_215
   clear hb29
   have kbG := (unhide bG_221).S
   go_wp2_with fail
   refine (heldMr nb2 vw2 vh2 _ nL _ _ _ 1 q HQ (by decide) (by decide) (by have := unhide HN10; omega) _ (unhide G_222)).mono ?_
   rintro e w30 ⟨rfl, hb30⟩
   clear kbG
   have B_225 := hide ((unhide B_216).trans (hb30.mono (unhide B_216).size))
   clear B_216
   have A_226 := hide ((unhide A_217).below hb30)
   clear A_217
   have Av_227 := hide ((unhide Av_218).below hb30)
   clear Av_218
   have W_228 := hide ((unhide W_219).below hb30 (unhide W_219).le)
   clear W_219
   have bW_229 := hide ((unhide bW_220).below hb30)
   clear bW_220
   have bG_230 := hide ((unhide bG_221).below hb30)
   clear bG_221
   have G_231 := hide ((unhide G_222).below hb30 (unhide G_222).le)
   clear G_222
   have H_232 := hide ((unhide H_223).below hb30 (unhide H_223).le)
   clear H_223
   have bH_233 := hide ((unhide bH_224).below hb30)
   clear bH_224
   clear hb30
   go_wp2_with fail
   go_ret
   exact ⟨rfl, (unhide B_225)⟩

set_option maxRecDepth 100000 in
theorem lifted (os : Os) (started : os.Started) (H : Type) (enc : TypeId × Value → H) :
    ReturnsInHanded {} Try.checked os 3 .any (Rows.fnExactAcceptViewSpec.pre6 enc Try.prog Try.f3 Rows.fnExactAcceptViewRow.domain false) (Rows.fnExactAcceptViewSpec.post enc Try.prog Try.f3 false true false false) := by
  refine returnsInHanded_of_change (C := Try.checked) own started (by kernel_rfl) Try.func3
    (ChangeSpec.witness6 (enc := enc) (C := Try.checked) false ⟨#[], #[.agg #[.int .i64 0, .int .i64 0, .int .i64 0, .slice none 0 0], .agg #[.int .i64 0, .int .i64 0, .bool false, .int .i64 0, .int .i64 0, .slice none 0 0]], []⟩ 8 (by kernel_rfl) (by kernel_rfl) (by kernel_rfl) (by kernel_rfl)) ?_
  intro W base args ds gs before hval0 hW hcnd _
  have hval : ∀ (j : Nat) t v, Try.f3.params[j]? = some t → args[j]? = some v → Value.okWide Try.prog W .any base t v := hval0
  have hW' := hW
  obtain ⟨p, q, hA0, hV, rfl, hfz, hnd⟩ := hW
  have hA : DataW.TrodAll enc Try.prog W 0 (fun _ => true) true Try.f3.params.toList args.toList ds p := hA0
  rw [Try.params3] at hA hval
  obtain ⟨v0, vs0, d_0, ds0, p0, q0, hargs, rfl, rfl, h0, r0⟩ := trodAll_cons hA
  obtain ⟨v1, vs1, d_1, ds1, p1, q1, rfl, rfl, rfl, h1, r1⟩ := trodAll_cons r0
  obtain ⟨rfl, rfl, rfl⟩ := trodAll_nil r1
  obtain rfl : args = #[v0, v1] := by cases args; simp_all
  obtain ⟨rfl, rfl⟩ := trodVars_none hV
  have k0 := h0
  have lt0 : ∀ x ∈ p0, x.block < W.heap.size := by obtain ⟨m, hm⟩ := k0; exact DataW.trod_lt m _ _ _ hm
  have k1 := h1
  have lt1 : ∀ x ∈ p1, x.block < W.heap.size := by obtain ⟨m, hm⟩ := k1; exact DataW.trod_lt m _ _ _ hm
  obtain ⟨c0_0, c0_1, c0_2, c0_3, u0_0, u0_1, u0_2, u0_3, n0_, rfl, z0_0, z0_1, z0_2, z0_3⟩ := open_agg4 Try.underlying24 (by kernel_rfl) (by kernel_rfl) (hval 0 24 v0 rfl rfl) h0
  obtain ⟨nb, e0_0, -, -⟩ := DataW.trod_int Try.underlying3 z0_0
  obtain rfl : c0_0 = .int .i64 nb := by simpa using e0_0
  obtain ⟨vw, e0_1, -, -⟩ := DataW.trod_int Try.underlying3 z0_1
  obtain rfl : c0_1 = .int .i64 vw := by simpa using e0_1
  obtain ⟨vh, e0_2, -, -⟩ := DataW.trod_int Try.underlying3 z0_2
  obtain rfl : c0_2 = .int .i64 vh := by simpa using e0_2
  obtain ⟨a, n, cap, l, rfl, el_, ml_, sl_, rl_⟩ := strs_fieldO Try.underlying22 Try.underlying9 (by kernel_rfl) z0_3
  obtain ⟨c1_0, c1_1, c1_2, c1_3, c1_4, c1_5, u1_0, u1_1, u1_2, u1_3, u1_4, u1_5, n1_, rfl, z1_0, z1_1, z1_2, z1_3, z1_4, z1_5⟩ := open_agg6 Try.underlying27 (by kernel_rfl) (by kernel_rfl) (hval 1 27 v1 rfl rfl) h1
  obtain ⟨nbv, e1_0, -, -⟩ := DataW.trod_int Try.underlying3 z1_0
  obtain rfl : c1_0 = .int .i64 nbv := by simpa using e1_0
  obtain ⟨frv, e1_1, -, -⟩ := DataW.trod_int Try.underlying3 z1_1
  obtain rfl : c1_1 = .int .i64 frv := by simpa using e1_1
  obtain ⟨fuv, e1_2, -⟩ := DataW.trod_bool Try.underlying4 z1_2
  obtain rfl : c1_2 = .bool fuv := by simpa using e1_2
  obtain ⟨vwv, e1_3, -, -⟩ := DataW.trod_int Try.underlying3 z1_3
  obtain rfl : c1_3 = .int .i64 vwv := by simpa using e1_3
  obtain ⟨vhv, e1_4, -, -⟩ := DataW.trod_int Try.underlying3 z1_4
  obtain rfl : c1_4 = .int .i64 vhv := by simpa using e1_4
  obtain ⟨av, nv, capv, lv, rfl, el_v, ml_v, sl_v, rl_v⟩ := entries_field Try.underlying25 Try.underlying57 (by kernel_rfl) rfl rfl (by kernel_rfl) (by kernel_rfl) Try.underlying3 Try.underlying9 z1_5
  clear hA0 hval0
  refine (walk W nb vw vh a n cap l el_ ml_ sl_ nbv frv vwv vhv fuv av nv capv lv el_v ml_v sl_v rl_ rl_v).mono fun e W' ⟨he, bel⟩ => ?_
  subst he
  exact ⟨_, rfl, _, _, _, [], _, [], hW', trodAll_mk1 (shut_bool Try.underlying4 _), (trodAll_cons_mk (Below.trod laidOut (by kernel_rfl) (of_decide_eq_true (by kernel_rfl)) k0 bel lt0) (trodAll_cons_mk (Below.trod laidOut (by kernel_rfl) (of_decide_eq_true (by kernel_rfl)) k1 bel lt1) trodAll_mk0)), rfl, bel.frame _, fun h => by cases h⟩

theorem over : Rows.fnExactAcceptViewRow.holds Try.pinned (OpenSpec.ofChange Rows.fnExactAcceptViewSpec) :=
  OpenClaim.holds_of_wide 3 Try.f3 rfl rfl rfl rfl rfl rfl rfl ⟨rfl, rfl, rfl, rfl, rfl⟩ rfl rfl rfl rfl rfl (by kernel_rfl) Try.func3 (by kernel_rfl)
    (of_decide_eq_true (by kernel_rfl)) (by unfold Func.isWrapper; first | (rw [if_pos (by decide +kernel)]; kernel_rfl) | (rw [if_neg (by decide +kernel)]; exact ⟨rfl, rfl⟩))
    (fun os started H enc _ => lifted os started H enc)

theorem proved : Rows.FnExactAcceptViewSaid := over
#print axioms proved
end Go.Proofs.Ytfibbhggphmebaa
