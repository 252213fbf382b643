/- Texts put together: NdQ UtI. -/
import Derived.Test.YtpadpgjkpajfaaaZNdJ
import Derived.Test.YtpadpgjkpajfaaaZNdK
import Derived.Test.YtpadpgjkpajfaaaZNdP
import Derived.Test.YtpadpgjkpajfaaaZG3
/- Which nodes are right: what the program answers. -/
namespace Go.Proofs.Ytpadpgjkpajfaaa
open Go.ChangeShapes Go.WideShapes Go.ChangeAt Go.RowKit
set_option linter.unusedVariables false
theorem inodeok (id nd tm vt ro cm el wt : Int) (up : Bool) (a : Option Addr) (cap n : Nat) (l : List (Int × ByteArray)) (HN : Hid (l.length = n)) (av : Option Addr) (cv nv : Nat) (lv : List Int) (HNv : Hid (lv.length = nv)) (ax : Option Addr) (cx nx : Nat) (lx : List Int) (HNx : Hid (lx.length = nx)) (ag : Option Addr) (cg ng : Nat) (lg : List Int) (HNg : Hid (lg.length = ng)) (hn : n ≤ 1048576) (hnv : nv ≤ 1048576) (hnx : nx ≤ 1048576) (hng : ng ≤ 1048576) (HSZ : Hid (∀ k (h : k < l.length), l[k].2.size ≤ 1048576)) (R : Bool) (HR : Hid (R = nodeB id nd tm vt ro cm el wt up l lv lx lg)) (w : World) (hr : RowV w a (cE l)) (hrv : RowV w av (cI lv)) (hrx : RowV w ax (cI lx)) (hrg : RowV w ag (cI lg)) :
    Calls Try.prog 22 #[.agg #[.int .i64 id, .int .i64 nd, .int .i64 tm, .int .i64 vt, .int .i64 ro, .bool up, .slice a n cap, .int .i64 cm, .int .i64 el, .int .i64 wt, .slice av nv cv, .slice ax nx cx, .slice ag ng cg]] w fun e w' => e = .returned (.bool R) ∧ Below w.heap.size w w' := by
  have hR := unhide HR
  unfold nodeB at hR
  rw [unhide HN] at hR
  rcases bdic (inB nd 1 5) with c0 | c0
  · obtain rfl : R = false := by rw [hR, c0]; simp
    exact inode_0 id nd tm vt ro cm el wt up a cap n l HN av cv nv lv HNv ax cx nx lx HNx ag cg ng lg HNg hn hnv hnx hng HSZ c0.symm w hr hrv hrx hrg
  rcases bdic (inB id 0 (nd - 1)) with c1 | c1
  · obtain rfl : R = false := by rw [hR, c1]; simp
    exact inode_1 id nd tm vt ro cm el wt up a cap n l HN av cv nv lv HNv ax cx nx lx HNx ag cg ng lg HNg hn hnv hnx hng HSZ c0.symm c1.symm w hr hrv hrx hrg
  rcases bdic (decide (vt < nd)) with c2 | c2
  · obtain rfl : R = false := by rw [hR, c2]; simp
    exact inode_2 id nd tm vt ro cm el wt up a cap n l HN av cv nv lv HNv ax cx nx lx HNx ag cg ng lg HNg hn hnv hnx hng HSZ c0.symm c1.symm c2.symm w hr hrv hrx hrg
  rcases bdic (stateB tm vt l) with c3 | c3
  · obtain rfl : R = false := by rw [hR, c3]; simp
    exact inode_3 id nd tm vt ro cm el wt up a cap n l HN av cv nv lv HNv ax cx nx lx HNx ag cg ng lg HNg hn hnv hnx hng HSZ c0.symm c1.symm c2.symm c3.symm w hr hrv hrx hrg
  rcases bdic (roleB ro up) with c4 | c4
  · obtain rfl : R = false := by rw [hR, c4]; simp
    exact inode_4 id nd tm vt ro cm el wt up a cap n l HN av cv nv lv HNv ax cx nx lx HNx ag cg ng lg HNg hn hnv hnx hng HSZ c0.symm c1.symm c2.symm c3.symm c4.symm w hr hrv hrx hrg
  rcases bdic (inB cm 0 (n : Int)) with c5 | c5
  · obtain rfl : R = false := by rw [hR, c5]; simp
    exact inode_5 id nd tm vt ro cm el wt up a cap n l HN av cv nv lv HNv ax cx nx lx HNx ag cg ng lg HNg hn hnv hnx hng HSZ c0.symm c1.symm c2.symm c3.symm c4.symm c5.symm w hr hrv hrx hrg
  rcases bdic (inB el 0 1000) with c6 | c6
  · obtain rfl : R = false := by rw [hR, c6]; simp
    exact inode_6 id nd tm vt ro cm el wt up a cap n l HN av cv nv lv HNv ax cx nx lx HNx ag cg ng lg HNg hn hnv hnx hng HSZ c0.symm c1.symm c2.symm c3.symm c4.symm c5.symm c6.symm w hr hrv hrx hrg
  rcases bdic (inB wt 5 100) with c7 | c7
  · obtain rfl : R = false := by rw [hR, c7]; simp
    exact inode_7 id nd tm vt ro cm el wt up a cap n l HN av cv nv lv HNv ax cx nx lx HNx ag cg ng lg HNg hn hnv hnx hng HSZ c0.symm c1.symm c2.symm c3.symm c4.symm c5.symm c6.symm c7.symm w hr hrv hrx hrg
  rcases bdic (upB nd 0 lv) with c8 | c8
  · obtain rfl : R = false := by rw [hR, c8]; simp
    exact inode_8 id nd tm vt ro cm el wt up a cap n l HN av cv nv lv HNv ax cx nx lx HNx ag cg ng lg HNg hn hnv hnx hng HSZ c0.symm c1.symm c2.symm c3.symm c4.symm c5.symm c6.symm c7.symm c8.symm w hr hrv hrx hrg
  rcases bdic (placesB nd (n : Int) lx lg) with c9 | c9
  · obtain rfl : R = false := by rw [hR, c9]; simp
    exact inode_9 id nd tm vt ro cm el wt up a cap n l HN av cv nv lv HNv ax cx nx lx HNx ag cg ng lg HNg hn hnv hnx hng HSZ c0.symm c1.symm c2.symm c3.symm c4.symm c5.symm c6.symm c7.symm c8.symm c9.symm w hr hrv hrx hrg
  obtain rfl : R = true := by rw [hR, c0, c1, c2, c3, c4, c5, c6, c7, c8, c9]; rfl
  exact inode_10 id nd tm vt ro cm el wt up a cap n l HN av cv nv lv HNv ax cx nx lx HNx ag cg ng lg HNg hn hnv hnx hng HSZ c0.symm c1.symm c2.symm c3.symm c4.symm c5.symm c6.symm c7.symm c8.symm c9.symm w hr hrv hrx hrg
end Go.Proofs.Ytpadpgjkpajfaaa

/- Whether a log is up to date: what the program answers. -/
namespace Go.Proofs.Ytpadpgjkpajfaaa
open Go.ChangeShapes Go.WideShapes Go.ChangeAt Go.RowKit
set_option linter.unusedVariables false
set_option maxHeartbeats 4000000 in
set_option maxRecDepth 100000 in
theorem itermat (id nd tm vt ro cm el wt : Int) (up : Bool) (a : Option Addr) (cap n : Nat) (av : Option Addr) (cv nv : Nat) (ax : Option Addr) (cx nx : Nat) (ag : Option Addr) (cg ng : Nat) (l : List Ent) (HN : Hid (l.length = n)) (hn : n ≤ 1048576) (k : Nat) (hk : k ≤ n) (TT : Int) (HT : Hid (TT = tAt l k)) (w : World) (hr : RowV w a (cE l)) :
    Calls Try.prog 50 #[.agg #[.int .i64 id, .int .i64 nd, .int .i64 tm, .int .i64 vt, .int .i64 ro, .bool up, .slice a n cap, .int .i64 cm, .int .i64 el, .int .i64 wt, .slice av nv cv, .slice ax nx cx, .slice ag ng cg], .int .i64 (k : Int)] w fun e w' => e = .returned (.int .i64 TT) ∧ Below w.heap.size w w' := by
  have B0 := hide (Go.Joins.below_alloc1 w (.cells #[.int .i64 id, .int .i64 nd, .int .i64 tm, .int .i64 vt, .int .i64 ro, .bool up, .slice a n cap, .int .i64 cm, .int .i64 el, .int .i64 wt, .slice av nv cv, .slice ax nx cx, .slice ag ng cg] 29))
  by_cases h0 : k = 0
  · have z1 : ((k : Int) == 0) = true := by simpa using h0
    obtain rfl : TT = 0 := by rw [unhide HT, h0]; exact tAt_zero l
    clear h0 HT
    go_enter Try.func50, Try.ntmps50
    go_wp2_with fail
    go_ret
    exact ⟨rfl, unhide B0⟩
  · have z1 : ((k : Int) == 0) = false := by simpa using h0
    obtain ⟨j, hj⟩ : ∃ j, k = j + 1 := ⟨k - 1, by omega⟩
    have hjl : j < l.length := by rw [unhide HN]; omega
    obtain ⟨b, off, ha, hblt, hc⟩ := hr.at (by rw [cE_len, unhide HN]; omega)
    subst ha
    obtain ⟨x0, x1⟩ := row_ent hc j hjl
    have hT : TT = l[j].1 := by rw [unhide HT, hj]; exact tAt_succ l j hjl
    rw [← hT] at x0
    have hx0 := ((unhide B0).cell (p := ⟨b, off + j * 2, none⟩) hblt).trans x0
    have hw1 : IntKind.i64.wrap ((k : Int) - 1) = (j : Int) := by rw [wrapi _ (by omega) (by omega)]; omega
    have hj1 : (j : Int) < (n : Int) := by omega
    have hj0 : (0 : Int) ≤ (j : Int) := by omega
    clear hc x0 x1 hT hj hjl h0 HT hk
    go_enter Try.func50, Try.ntmps50
    go_wp2_with fail
    go_ret
    exact ⟨rfl, unhide B0⟩
end Go.Proofs.Ytpadpgjkpajfaaa
