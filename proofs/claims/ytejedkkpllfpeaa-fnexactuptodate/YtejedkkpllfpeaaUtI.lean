/- Whether a log is up to date: what the program answers. -/
import Derived.Test.YtejedkkpllfpeaaUtM
import Derived.Test.YtejedkkpllfpeaaNdQ
namespace Go.Proofs.Ytejedkkpllfpeaa
open Go.ChangeShapes Go.WideShapes Go.ChangeAt Go.RowKit
set_option linter.unusedVariables false
set_option maxHeartbeats 4000000 in
set_option maxRecDepth 100000 in
theorem itermat (id nd tm vt ro cm el wt : Int) (up : Bool) (a : Option Addr) (cap n : Nat) (av : Option Addr) (cv nv : Nat) (ax : Option Addr) (cx nx : Nat) (ag : Option Addr) (cg ng : Nat) (l : List Ent) (HN : Hid (l.length = n)) (hn : n ≤ 1048576) (k : Nat) (hk : k ≤ n) (TT : Int) (HT : Hid (TT = tAt l k)) (w : World) (hr : RowV w a (cE l)) :
    Calls Try.prog 34 #[.agg #[.int .i64 id, .int .i64 nd, .int .i64 tm, .int .i64 vt, .int .i64 ro, .bool up, .slice a n cap, .int .i64 cm, .int .i64 el, .int .i64 wt, .slice av nv cv, .slice ax nx cx, .slice ag ng cg], .int .i64 (k : Int)] w fun e w' => e = .returned (.int .i64 TT) ∧ Below w.heap.size w w' := by
  have B0 := hide (Go.Joins.below_alloc1 w (.cells #[.int .i64 id, .int .i64 nd, .int .i64 tm, .int .i64 vt, .int .i64 ro, .bool up, .slice a n cap, .int .i64 cm, .int .i64 el, .int .i64 wt, .slice av nv cv, .slice ax nx cx, .slice ag ng cg] 31))
  by_cases h0 : k = 0
  · have z1 : ((k : Int) == 0) = true := by simpa using h0
    obtain rfl : TT = 0 := by rw [unhide HT, h0]; exact tAt_zero l
    clear h0 HT
    go_enter Try.func34, Try.ntmps34
    go_wp2_with fail
    go_ret
    exact ⟨rfl, unhide B0⟩
  · have z1 : ((k : Int) == 0) = false := by simpa using h0
    obtain ⟨j, hj⟩ : ∃ j, k = j + 1 := ⟨k - 1, by omega⟩
    have hjl : j < l.length := by rw [unhide HN]; omega
    obtain ⟨b, off, ha, hblt, hc⟩ := hr.at (by rw [cE_len, unhide HN]; omega)
    subst ha
    obtain ⟨x0, x1⟩ := row_ent hc j hjl
    have hT : TT = l[j].1 := by rw [unhide HT, hj]; exact tAt_succ l j hjl
    rw [← hT] at x0
    have hx0 := ((unhide B0).cell (p := ⟨b, off + j * 2, none⟩) hblt).trans x0
    have hw1 : IntKind.i64.wrap ((k : Int) - 1) = (j : Int) := by rw [wrapi _ (by omega) (by omega)]; omega
    have hj1 : (j : Int) < (n : Int) := by omega
    have hj0 : (0 : Int) ≤ (j : Int) := by omega
    clear hc x0 x1 hT hj hjl h0 HT hk
    go_enter Try.func34, Try.ntmps34
    go_wp2_with fail
    go_ret
    exact ⟨rfl, unhide B0⟩
set_option maxHeartbeats 4000000 in
set_option maxRecDepth 100000 in
theorem iuptod (id nd tm vt ro cm el wt : Int) (up : Bool) (a : Option Addr) (cap n : Nat) (av : Option Addr) (cv nv : Nat) (ax : Option Addr) (cx nx : Nat) (ag : Option Addr) (cg ng : Nat) (l : List Ent) (HN : Hid (l.length = n)) (hn : n ≤ 1048576) (iq tq : Int) (TT : Int) (HT : Hid (TT = tAt l n)) (U : Bool) (HU : Hid (U = utB (n : Int) TT iq tq)) (w : World) (hr : RowV w a (cE l)) :
    Calls Try.prog 16 #[.agg #[.int .i64 id, .int .i64 nd, .int .i64 tm, .int .i64 vt, .int .i64 ro, .bool up, .slice a n cap, .int .i64 cm, .int .i64 el, .int .i64 wt, .slice av nv cv, .slice ax nx cx, .slice ag ng cg], .int .i64 iq, .int .i64 tq] w fun e w' => e = .returned (.bool U) ∧ Below w.heap.size w w' := by
  have B0 := hide (Go.Joins.below_alloc1 w (.cells #[.int .i64 id, .int .i64 nd, .int .i64 tm, .int .i64 vt, .int .i64 ro, .bool up, .slice a n cap, .int .i64 cm, .int .i64 el, .int .i64 wt, .slice av nv cv, .slice ax nx cx, .slice ag ng cg] 31))
  have A0 := hide (BF.new w #[.int .i64 id, .int .i64 nd, .int .i64 tm, .int .i64 vt, .int .i64 ro, .bool up, .slice a n cap, .int .i64 cm, .int .i64 el, .int .i64 wt, .slice av nv cv, .slice ax nx cx, .slice ag ng cg] 31)
  have HR := hide hr
  clear hr
  have B1 := hide (unhide B0).drew
  have A1 := hide (unhide A0).drew
  have k0 := (unhide A0).S
  clear B0 A0
  go_enter Try.func16, Try.ntmps16
  go_wp2_with fail
  refine wp_region_held_drew (S := fun w' => ∀ o, w'.cell? ⟨w.heap.size, o, none⟩ = (#[.int .i64 id, .int .i64 nd, .int .i64 tm, .int .i64 vt, .int .i64 ro, .bool up, .slice a n cap, .int .i64 cm, .int .i64 el, .int .i64 wt, .slice av nv cv, .slice ax nx cx, .slice ag ng cg] : Array Value)[o]?) (by kernel_rfl) k0 (fun hHeld => ?_)
  refine wpAnyH_take (i := 0) (oi := { dst := some 8, op := .load 31 (.tmp 3), type := 31, pos := "l08_raft.go:145", after := #[], guard := none }) (v := ?_) rfl (by kernel_rfl) (by kernel_rfl) (by kernel_rfl) (fun _ _ _ h => h) (Or.inl ⟨by rfl, ?_⟩) (by assumption) ?_
  rotate_left 1
  · (intro w' hSw; (try dsimp only at hSw); go_simp; try with_reducible rfl)
  try simp only [Act.put, List.setIfInBounds_toArray, List.set_cons_zero, List.set_cons_succ]
  refine wpAnyH_take (i := 1) (oi := { dst := some 9, op := .load 31 (.tmp 3), type := 31, pos := "l08_raft.go:145", after := #[], guard := none }) (v := ?_) rfl (by kernel_rfl) (by kernel_rfl) (by kernel_rfl) (fun _ _ _ h => h) (Or.inl ⟨by rfl, ?_⟩) (by assumption) ?_
  rotate_left 1
  · (intro w' hSw; (try dsimp only at hSw); go_simp; try with_reducible rfl)
  try simp only [Act.put, List.setIfInBounds_toArray, List.set_cons_zero, List.set_cons_succ]
  refine wpAnyH_ready (rs := [2]) (by kernel_rfl) (by simp) ?_
  refine AllReadyH.cons (o := { dst := some 10, op := .call { callee := .value (.func 31), args := #[.tmp 9], argTypes := #[31] }, type := 3, pos := "l08_raft.go:145", after := #[{ on := 1, ground := .data }], guard := none }) rfl (fun K hK => ?_) AllReadyH.nil
  go_simp
  refine (ilast id nd tm vt ro cm el wt up a cap n av cv nv ax cx nx ag cg ng _).mono ?_
  rintro e w2 ⟨rfl, hb2⟩
  have B2 := hide ((unhide B1).trans (hb2.mono (unhide B1).size))
  have A2 := hide ((unhide A1).below hb2)
  clear hb2 B1 A1
  go_wp2_with fail
  refine hK.out _ _ ?_ (fun hHeld2 => ?_)
  · exact (unhide A2).S
  clear hK K
  try simp only [Act.put, List.setIfInBounds_toArray, List.set_cons_zero, List.set_cons_succ]
  refine wpAnyH_ready (rs := [3]) (by kernel_rfl) (by simp) ?_
  refine AllReadyH.cons (o := { dst := some 11, op := .call { callee := .value (.func 34), args := #[.tmp 8, .tmp 10], argTypes := #[31, 3] }, type := 3, pos := "l08_raft.go:145", after := #[{ on := 0, ground := .data }, { on := 2, ground := .data }, { on := 2, ground := .chain }], guard := none }) rfl (fun K hK => ?_) AllReadyH.nil
  go_simp
  refine (itermat id nd tm vt ro cm el wt up a cap n av cv nv ax cx nx ag cg ng l HN hn n (Nat.le_refl _) TT HT _ ((unhide HR).below (unhide B2))).mono ?_
  rintro e w3 ⟨rfl, hb3⟩
  have B3 := hide ((unhide B2).trans (hb3.mono (unhide B2).size))
  have A3 := hide ((unhide A2).below hb3)
  clear hb3 B2 A2
  go_wp2_with fail
  refine hK.out _ _ ?_ (fun hHeld3 => ?_)
  · exact (unhide A3).S
  clear hK K
  try simp only [Act.put, List.setIfInBounds_toArray, List.set_cons_zero, List.set_cons_succ]
  refine wpAnyH_take (i := 4) (oi := { dst := some 7, op := .assign (.tmp 11), type := 3, pos := "l08_raft.go:145", after := #[{ on := 3, ground := .data }, { on := 3, ground := .chain }, { on := 0, ground := .phase }, { on := 1, ground := .phase }, { on := 2, ground := .phase }, { on := 3, ground := .phase }], guard := none }) (v := ?_) rfl (by kernel_rfl) (by kernel_rfl) (by kernel_rfl) (fun _ _ _ h => h) (Or.inl ⟨by rfl, ?_⟩) (by assumption) ?_
  rotate_left 1
  · (intro w' hSw; (try dsimp only at hSw); go_simp; try with_reducible rfl)
  try simp only [Act.put, List.setIfInBounds_toArray, List.set_cons_zero, List.set_cons_succ]
  refine wpAnyH_done (by kernel_rfl) ?_ _
  clear k0
  have a3 := (unhide A3).S
  by_cases hgt : TT < tq
  · obtain rfl : U = true := by rw [unhide HU]; unfold utB; rw [decide_eq_true hgt]; rfl
    have dg : decide (TT < tq) = true := decide_eq_true hgt
    clear hgt
    go_wp2_with fail
    go_ret
    exact ⟨rfl, unhide B3⟩
  have dg : decide (TT < tq) = false := decide_eq_false hgt
  by_cases heq : tq = TT
  · have de : (tq == TT) = true := by simpa using heq
    have dl : decide ((n : Int) ≤ iq) = U := by rw [unhide HU]; unfold utB; rw [decide_eq_false hgt, decide_eq_true heq]; rfl
    have HD := hide dl
    clear heq hgt dl
    go_wp2_with fail
    refine (ilast id nd tm vt ro cm el wt up a cap n av cv nv ax cx nx ag cg ng _).mono ?_
    rintro e w4 ⟨rfl, hb4⟩
    have B4 := hide ((unhide B3).trans (hb4.mono (unhide B3).size))
    clear hb4
    go_wp2_with fail
    go_ret
    exact ⟨ret_bool (unhide HD), unhide B4⟩
  · have de : (tq == TT) = false := by simpa using heq
    obtain rfl : U = false := by rw [unhide HU]; unfold utB; rw [decide_eq_false hgt, decide_eq_false heq]; rfl
    clear heq hgt
    go_wp2_with fail
    go_ret
    exact ⟨rfl, unhide B3⟩
set_option maxHeartbeats 4000000 in
set_option maxRecDepth 100000 in
theorem iupto (id nd tm vt ro cm el wt : Int) (up : Bool) (a : Option Addr) (cap n : Nat) (l : List (Int × ByteArray)) (HN : Hid (l.length = n)) (av : Option Addr) (cv nv : Nat) (lv : List Int) (HNv : Hid (lv.length = nv)) (ax : Option Addr) (cx nx : Nat) (lx : List Int) (HNx : Hid (lx.length = nx)) (ag : Option Addr) (cg ng : Nat) (lg : List Int) (HNg : Hid (lg.length = ng)) (hn : n ≤ 1048576) (hnv : nv ≤ 1048576) (hnx : nx ≤ 1048576) (hng : ng ≤ 1048576) (HSZ : Hid (∀ k (h : k < l.length), l[k].2.size ≤ 1048576)) (R : Bool) (HRR : Hid (R = nodeB id nd tm vt ro cm el wt up l lv lx lg)) (iq tq : Int) (TT : Int) (HT : Hid (TT = tAt l n)) (U : Bool) (c : Int) (HU : Hid (U = (R && utB (n : Int) TT iq tq) ∧ c = if R then 0 else 1)) (w : World) (hr : RowV w a (cE l)) (hrv : RowV w av (cI lv)) (hrx : RowV w ax (cI lx)) (hrg : RowV w ag (cI lg)) :
    Calls Try.prog 7 #[.agg #[.int .i64 id, .int .i64 nd, .int .i64 tm, .int .i64 vt, .int .i64 ro, .bool up, .slice a n cap, .int .i64 cm, .int .i64 el, .int .i64 wt, .slice av nv cv, .slice ax nx cx, .slice ag ng cg], .int .i64 iq, .int .i64 tq] w fun e w' => e = .returned (.tuple #[.bool U, .int .i64 c]) ∧ Below w.heap.size w w' := by
  have B0 := hide (Go.Joins.below_alloc1 w (.cells #[.int .i64 id, .int .i64 nd, .int .i64 tm, .int .i64 vt, .int .i64 ro, .bool up, .slice a n cap, .int .i64 cm, .int .i64 el, .int .i64 wt, .slice av nv cv, .slice ax nx cx, .slice ag ng cg] 31))
  have A0 := hide (BF.new w #[.int .i64 id, .int .i64 nd, .int .i64 tm, .int .i64 vt, .int .i64 ro, .bool up, .slice a n cap, .int .i64 cm, .int .i64 el, .int .i64 wt, .slice av nv cv, .slice ax nx cx, .slice ag ng cg] 31)
  have HR := hide hr
  have HRv := hide hrv
  have HRx := hide hrx
  have HRg := hide hrg
  clear hr hrv hrx hrg
  go_enter Try.func7, Try.ntmps7
  go_wp2_with fail
  refine (inodeok id nd tm vt ro cm el wt up a cap n l HN av cv nv lv HNv ax cx nx lx HNx ag cg ng lg HNg hn hnv hnx hng HSZ R HRR _ ((unhide HR).below (unhide B0)) ((unhide HRv).below (unhide B0)) ((unhide HRx).below (unhide B0)) ((unhide HRg).below (unhide B0))).mono ?_
  rintro e w1 ⟨rfl, hb1⟩
  have B1 := hide ((unhide B0).trans (hb1.mono (unhide B0).size))
  have A1 := hide ((unhide A0).below hb1)
  clear hb1 B0 A0
  have a1 := (unhide A1).S
  cases R with
  | false =>
    obtain ⟨rfl, rfl⟩ : U = false ∧ c = 1 := by simpa using unhide HU
    go_wp2_with fail
    go_ret2
    exact ⟨rfl, unhide B1⟩
  | true =>
    have hu : U = utB (n : Int) TT iq tq ∧ c = 0 := by simpa using unhide HU
    obtain ⟨hu1, rfl⟩ := hu
    have HU1 := hide hu1
    clear hu1 HU
    go_wp2_with fail
    refine (iuptod id nd tm vt ro cm el wt up a cap n av cv nv ax cx nx ag cg ng l HN hn iq tq TT HT U HU1 _ ((unhide HR).below (unhide B1))).mono ?_
    rintro e w2 ⟨rfl, hb2⟩
    have B2 := hide ((unhide B1).trans (hb2.mono (unhide B1).size))
    clear hb2
    go_wp2_with fail
    go_ret2
    exact ⟨rfl, unhide B2⟩
end Go.Proofs.Ytejedkkpllfpeaa
