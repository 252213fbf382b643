/- Which nodes are right: what the program answers. -/
import Derived.Test.YtkpbnjlafpcnjaaGreatDoorZNdJ
import Derived.Test.YtkpbnjlafpcnjaaGreatDoorZNdK
import Derived.Test.YtkpbnjlafpcnjaaGreatDoorZNdP
namespace Go.Proofs.YtkpbnjlafpcnjaaGreatDoor
open Go.ChangeShapes Go.WideShapes Go.ChangeAt Go.RowKit
set_option linter.unusedVariables false
theorem inodeok (id nd tm vt ro cm el wt : Int) (up : Bool) (a : Option Addr) (cap n : Nat) (l : List (Int × ByteArray)) (HN : Hid (l.length = n)) (av : Option Addr) (cv nv : Nat) (lv : List Int) (HNv : Hid (lv.length = nv)) (ax : Option Addr) (cx nx : Nat) (lx : List Int) (HNx : Hid (lx.length = nx)) (ag : Option Addr) (cg ng : Nat) (lg : List Int) (HNg : Hid (lg.length = ng)) (hn : n ≤ 1048576) (hnv : nv ≤ 1048576) (hnx : nx ≤ 1048576) (hng : ng ≤ 1048576) (HSZ : Hid (∀ k (h : k < l.length), l[k].2.size ≤ 1048576)) (R : Bool) (HR : Hid (R = nodeB id nd tm vt ro cm el wt up l lv lx lg)) (w : World) (hr : RowV w a (cE l)) (hrv : RowV w av (cI lv)) (hrx : RowV w ax (cI lx)) (hrg : RowV w ag (cI lg)) :
  Calls Tryz.prog 43 #[.agg #[.int .i64 id, .int .i64 nd, .int .i64 tm, .int .i64 vt, .int .i64 ro, .bool up, .slice a n cap, .int .i64 cm, .int .i64 el, .int .i64 wt, .slice av nv cv, .slice ax nx cx, .slice ag ng cg]] w fun e w' => e = .returned (.bool R) ∧ Below w.heap.size w w' := by
 have hR := unhide HR
 unfold nodeB at hR
 rw [unhide HN] at hR
 rcases bdic (inB nd 1 5) with c0 | c0
 ·obtain rfl : R = false := by rw [hR, c0]; simp
  exact inode_0 id nd tm vt ro cm el wt up a cap n l HN av cv nv lv HNv ax cx nx lx HNx ag cg ng lg HNg hn hnv hnx hng HSZ c0.symm w hr hrv hrx hrg
 rcases bdic (inB id 0 (nd - 1)) with c1 | c1
 ·obtain rfl : R = false := by rw [hR, c1]; simp
  exact inode_1 id nd tm vt ro cm el wt up a cap n l HN av cv nv lv HNv ax cx nx lx HNx ag cg ng lg HNg hn hnv hnx hng HSZ c0.symm c1.symm w hr hrv hrx hrg
 rcases bdic (decide (vt < nd)) with c2 | c2
 ·obtain rfl : R = false := by rw [hR, c2]; simp
  exact inode_2 id nd tm vt ro cm el wt up a cap n l HN av cv nv lv HNv ax cx nx lx HNx ag cg ng lg HNg hn hnv hnx hng HSZ c0.symm c1.symm c2.symm w hr hrv hrx hrg
 rcases bdic (stateB tm vt l) with c3 | c3
 ·obtain rfl : R = false := by rw [hR, c3]; simp
  exact inode_3 id nd tm vt ro cm el wt up a cap n l HN av cv nv lv HNv ax cx nx lx HNx ag cg ng lg HNg hn hnv hnx hng HSZ c0.symm c1.symm c2.symm c3.symm w hr hrv hrx hrg
 rcases bdic (roleB ro up) with c4 | c4
 ·obtain rfl : R = false := by rw [hR, c4]; simp
  exact inode_4 id nd tm vt ro cm el wt up a cap n l HN av cv nv lv HNv ax cx nx lx HNx ag cg ng lg HNg hn hnv hnx hng HSZ c0.symm c1.symm c2.symm c3.symm c4.symm w hr hrv hrx hrg
 rcases bdic (inB cm 0 (n : Int)) with c5 | c5
 ·obtain rfl : R = false := by rw [hR, c5]; simp
  exact inode_5 id nd tm vt ro cm el wt up a cap n l HN av cv nv lv HNv ax cx nx lx HNx ag cg ng lg HNg hn hnv hnx hng HSZ c0.symm c1.symm c2.symm c3.symm c4.symm c5.symm w hr hrv hrx hrg
 rcases bdic (inB el 0 1000) with c6 | c6
 ·obtain rfl : R = false := by rw [hR, c6]; simp
  exact inode_6 id nd tm vt ro cm el wt up a cap n l HN av cv nv lv HNv ax cx nx lx HNx ag cg ng lg HNg hn hnv hnx hng HSZ c0.symm c1.symm c2.symm c3.symm c4.symm c5.symm c6.symm w hr hrv hrx hrg
 rcases bdic (inB wt 5 100) with c7 | c7
 ·obtain rfl : R = false := by rw [hR, c7]; simp
  exact inode_7 id nd tm vt ro cm el wt up a cap n l HN av cv nv lv HNv ax cx nx lx HNx ag cg ng lg HNg hn hnv hnx hng HSZ c0.symm c1.symm c2.symm c3.symm c4.symm c5.symm c6.symm c7.symm w hr hrv hrx hrg
 rcases bdic (upB nd 0 lv) with c8 | c8
 ·obtain rfl : R = false := by rw [hR, c8]; simp
  exact inode_8 id nd tm vt ro cm el wt up a cap n l HN av cv nv lv HNv ax cx nx lx HNx ag cg ng lg HNg hn hnv hnx hng HSZ c0.symm c1.symm c2.symm c3.symm c4.symm c5.symm c6.symm c7.symm c8.symm w hr hrv hrx hrg
 rcases bdic (placesB nd (n : Int) lx lg) with c9 | c9
 ·obtain rfl : R = false := by rw [hR, c9]; simp
  exact inode_9 id nd tm vt ro cm el wt up a cap n l HN av cv nv lv HNv ax cx nx lx HNx ag cg ng lg HNg hn hnv hnx hng HSZ c0.symm c1.symm c2.symm c3.symm c4.symm c5.symm c6.symm c7.symm c8.symm c9.symm w hr hrv hrx hrg
 obtain rfl : R = true := by rw [hR, c0, c1, c2, c3, c4, c5, c6, c7, c8, c9]; rfl
 exact inode_10 id nd tm vt ro cm el wt up a cap n l HN av cv nv lv HNv ax cx nx lx HNx ag cg ng lg HNg hn hnv hnx hng HSZ c0.symm c1.symm c2.symm c3.symm c4.symm c5.symm c6.symm c7.symm c8.symm c9.symm w hr hrv hrx hrg
end Go.Proofs.YtkpbnjlafpcnjaaGreatDoor
