/- Texts put together: NdQ ClkN. -/
import Derived.Test.YtfogppnijdjakaaGreatDoorZNdJ
import Derived.Test.YtfogppnijdjakaaGreatDoorZNdK
import Derived.Test.YtfogppnijdjakaaGreatDoorZNdP
import Derived.Test.YtfogppnijdjakaaGreatDoorZG24
import Derived.Test.YtfogppnijdjakaaGreatDoorZG25
import Derived.Test.YtfogppnijdjakaaGreatDoorZCluL
import Derived.Deep.Cut
/- Which nodes are right: what the program answers. -/
namespace Go.Proofs.YtfogppnijdjakaaGreatDoor
open Go.ChangeShapes Go.WideShapes Go.ChangeAt Go.RowKit
set_option linter.unusedVariables false
theorem inodeok (id nd tm vt ro cm el wt : Int) (up : Bool) (a : Option Addr) (cap n : Nat) (l : List (Int × ByteArray)) (HN : Hid (l.length = n)) (av : Option Addr) (cv nv : Nat) (lv : List Int) (HNv : Hid (lv.length = nv)) (ax : Option Addr) (cx nx : Nat) (lx : List Int) (HNx : Hid (lx.length = nx)) (ag : Option Addr) (cg ng : Nat) (lg : List Int) (HNg : Hid (lg.length = ng)) (hn : n ≤ 1048576) (hnv : nv ≤ 1048576) (hnx : nx ≤ 1048576) (hng : ng ≤ 1048576) (HSZ : Hid (∀ k (h : k < l.length), l[k].2.size ≤ 1048576)) (R : Bool) (HR : Hid (R = nodeB id nd tm vt ro cm el wt up l lv lx lg)) (w : World) (hr : RowV w a (cE l)) (hrv : RowV w av (cI lv)) (hrx : RowV w ax (cI lx)) (hrg : RowV w ag (cI lg)) :
  Calls Tryz.prog 63 #[.agg #[.int .i64 id, .int .i64 nd, .int .i64 tm, .int .i64 vt, .int .i64 ro, .bool up, .slice a n cap, .int .i64 cm, .int .i64 el, .int .i64 wt, .slice av nv cv, .slice ax nx cx, .slice ag ng cg]] w fun e w' => e = .returned (.bool R) ∧ Below w.heap.size w w' := by
 have hR := unhide HR
 unfold nodeB at hR
 rw [unhide HN] at hR
 rcases bdic (inB nd 1 5) with c0 | c0
 ·obtain rfl : R = false := by rw [hR, c0]; simp
  exact inode_0 id nd tm vt ro cm el wt up a cap n l HN av cv nv lv HNv ax cx nx lx HNx ag cg ng lg HNg hn hnv hnx hng HSZ c0.symm w hr hrv hrx hrg
 rcases bdic (inB id 0 (nd - 1)) with c1 | c1
 ·obtain rfl : R = false := by rw [hR, c1]; simp
  exact inode_1 id nd tm vt ro cm el wt up a cap n l HN av cv nv lv HNv ax cx nx lx HNx ag cg ng lg HNg hn hnv hnx hng HSZ c0.symm c1.symm w hr hrv hrx hrg
 rcases bdic (decide (vt < nd)) with c2 | c2
 ·obtain rfl : R = false := by rw [hR, c2]; simp
  exact inode_2 id nd tm vt ro cm el wt up a cap n l HN av cv nv lv HNv ax cx nx lx HNx ag cg ng lg HNg hn hnv hnx hng HSZ c0.symm c1.symm c2.symm w hr hrv hrx hrg
 rcases bdic (stateB tm vt l) with c3 | c3
 ·obtain rfl : R = false := by rw [hR, c3]; simp
  exact inode_3 id nd tm vt ro cm el wt up a cap n l HN av cv nv lv HNv ax cx nx lx HNx ag cg ng lg HNg hn hnv hnx hng HSZ c0.symm c1.symm c2.symm c3.symm w hr hrv hrx hrg
 rcases bdic (roleB ro up) with c4 | c4
 ·obtain rfl : R = false := by rw [hR, c4]; simp
  exact inode_4 id nd tm vt ro cm el wt up a cap n l HN av cv nv lv HNv ax cx nx lx HNx ag cg ng lg HNg hn hnv hnx hng HSZ c0.symm c1.symm c2.symm c3.symm c4.symm w hr hrv hrx hrg
 rcases bdic (inB cm 0 (n : Int)) with c5 | c5
 ·obtain rfl : R = false := by rw [hR, c5]; simp
  exact inode_5 id nd tm vt ro cm el wt up a cap n l HN av cv nv lv HNv ax cx nx lx HNx ag cg ng lg HNg hn hnv hnx hng HSZ c0.symm c1.symm c2.symm c3.symm c4.symm c5.symm w hr hrv hrx hrg
 rcases bdic (inB el 0 1000) with c6 | c6
 ·obtain rfl : R = false := by rw [hR, c6]; simp
  exact inode_6 id nd tm vt ro cm el wt up a cap n l HN av cv nv lv HNv ax cx nx lx HNx ag cg ng lg HNg hn hnv hnx hng HSZ c0.symm c1.symm c2.symm c3.symm c4.symm c5.symm c6.symm w hr hrv hrx hrg
 rcases bdic (inB wt 5 100) with c7 | c7
 ·obtain rfl : R = false := by rw [hR, c7]; simp
  exact inode_7 id nd tm vt ro cm el wt up a cap n l HN av cv nv lv HNv ax cx nx lx HNx ag cg ng lg HNg hn hnv hnx hng HSZ c0.symm c1.symm c2.symm c3.symm c4.symm c5.symm c6.symm c7.symm w hr hrv hrx hrg
 rcases bdic (upB nd 0 lv) with c8 | c8
 ·obtain rfl : R = false := by rw [hR, c8]; simp
  exact inode_8 id nd tm vt ro cm el wt up a cap n l HN av cv nv lv HNv ax cx nx lx HNx ag cg ng lg HNg hn hnv hnx hng HSZ c0.symm c1.symm c2.symm c3.symm c4.symm c5.symm c6.symm c7.symm c8.symm w hr hrv hrx hrg
 rcases bdic (placesB nd (n : Int) lx lg) with c9 | c9
 ·obtain rfl : R = false := by rw [hR, c9]; simp
  exact inode_9 id nd tm vt ro cm el wt up a cap n l HN av cv nv lv HNv ax cx nx lx HNx ag cg ng lg HNg hn hnv hnx hng HSZ c0.symm c1.symm c2.symm c3.symm c4.symm c5.symm c6.symm c7.symm c8.symm c9.symm w hr hrv hrx hrg
 obtain rfl : R = true := by rw [hR, c0, c1, c2, c3, c4, c5, c6, c7, c8, c9]; rfl
 exact inode_10 id nd tm vt ro cm el wt up a cap n l HN av cv nv lv HNv ax cx nx lx HNx ag cg ng lg HNg hn hnv hnx hng HSZ c0.symm c1.symm c2.symm c3.symm c4.symm c5.symm c6.symm c7.symm c8.symm c9.symm w hr hrv hrx hrg
end Go.Proofs.YtfogppnijdjakaaGreatDoor

/- impl's nodesOK and ClusterOK. -/
namespace Go.Proofs.YtfogppnijdjakaaGreatDoor
open Go.ChangeShapes Go.WideShapes Go.ChangeAt Go.RowKit
set_option linter.unusedVariables false
abbrev oClkN0 : Oper := { dst := some 13, op := .fieldAddr 71 (.tmp 4) 0, type := 0, pos := "l09_cluster.go:52", after := #[], guard := none }
abbrev oClkN1 : Oper := { dst := some 14, op := .load 3 (.tmp 13), type := 3, pos := "l09_cluster.go:52", after := #[{ on := 0, ground := .data }], guard := none }
abbrev oClkN2 : Oper := { dst := some 15, op := .move (.tmp 3), type := 3, pos := "l09_cluster.go:52", after := #[], guard := none }
abbrev oClkN3 : Oper := { dst := some 16, op := .binOp .neq 3 (.tmp 14) (.tmp 15) 3, type := 4, pos := "l09_cluster.go:52", after := #[{ on := 1, ground := .data }, { on := 2, ground := .data }], guard := none }
abbrev oClkN4 : Oper := { dst := some 17, op := .move (.tmp 16), type := 4, pos := "l09_cluster.go:52", after := #[{ on := 3, ground := .data }], guard := none }
abbrev oClkN5 : Oper := { dst := some 18, op := .fieldAddr 71 (.tmp 4) 1, type := 0, pos := "l09_cluster.go:52", after := #[{ on := 4, ground := .guard }], guard := some (4, false) }
abbrev oClkN6 : Oper := { dst := some 19, op := .load 3 (.tmp 18), type := 3, pos := "l09_cluster.go:52", after := #[{ on := 5, ground := .data }, { on := 4, ground := .guard }], guard := some (4, false) }
abbrev oClkN7 : Oper := { dst := some 20, op := .fieldAddr 35 (.tmp 1) 0, type := 0, pos := "l09_cluster.go:52", after := #[{ on := 4, ground := .guard }], guard := some (4, false) }
abbrev oClkN8 : Oper := { dst := some 21, op := .load 31 (.tmp 20), type := 31, pos := "l09_cluster.go:52", after := #[{ on := 7, ground := .data }, { on := 4, ground := .guard }], guard := some (4, false) }
abbrev oClkN9 : Oper := { dst := some 22, op := .call { callee := .builtin Go.Builtin.len, args := #[.tmp 21], argTypes := #[31] }, type := 3, pos := "l09_cluster.go:52", after := #[{ on := 8, ground := .data }, { on := 4, ground := .guard }], guard := some (4, false) }
abbrev oClkN10 : Oper := { dst := some 23, op := .binOp .neq 3 (.tmp 19) (.tmp 22) 3, type := 4, pos := "l09_cluster.go:52", after := #[{ on := 6, ground := .data }, { on := 9, ground := .data }, { on := 4, ground := .guard }], guard := some (4, false) }
abbrev oClkN11 : Oper := { dst := some 24, op := .pick (.tmp 17) (.const (.bool true)) (.tmp 23), type := 4, pos := "l09_cluster.go:52", after := #[{ on := 4, ground := .data }, { on := 10, ground := .data }], guard := none }
abbrev oClkN12 : Oper := { dst := some 25, op := .move (.tmp 24), type := 4, pos := "l09_cluster.go:52", after := #[{ on := 11, ground := .data }, { on := 4, ground := .chain }], guard := none }
abbrev oClkN13 : Oper := { dst := some 26, op := .load 71 (.tmp 4), type := 71, pos := "l09_cluster.go:52", after := #[{ on := 12, ground := .guard }], guard := some (12, false) }
abbrev oClkN14 : Oper := { dst := some 27, op := .call { callee := .value (.func 63), args := #[.tmp 26], argTypes := #[71] }, type := 4, pos := "l09_cluster.go:52", after := #[{ on := 13, ground := .data }, { on := 12, ground := .chain }, { on := 12, ground := .guard }], guard := some (12, false) }
abbrev oClkN15 : Oper := { dst := some 28, op := .unOp .not 4 (.tmp 27), type := 4, pos := "l09_cluster.go:52", after := #[{ on := 14, ground := .data }, { on := 12, ground := .guard }], guard := some (12, false) }
abbrev oClkN16 : Oper := { dst := some 29, op := .pick (.tmp 25) (.const (.bool true)) (.tmp 28), type := 4, pos := "l09_cluster.go:52", after := #[{ on := 12, ground := .data }, { on := 15, ground := .data }], guard := none }
abbrev oClkN17 : Oper := { dst := some 30, op := .move (.tmp 29), type := 4, pos := "l09_cluster.go:52", after := #[{ on := 16, ground := .data }, { on := 14, ground := .chain }], guard := none }
abbrev oClkN18 : Oper := { dst := some 31, op := .fieldAddr 35 (.tmp 1) 1, type := 0, pos := "l09_cluster.go:52", after := #[{ on := 17, ground := .guard }], guard := some (17, false) }
abbrev oClkN19 : Oper := { dst := some 32, op := .load 32 (.tmp 31), type := 32, pos := "l09_cluster.go:52", after := #[{ on := 18, ground := .data }, { on := 17, ground := .guard }], guard := some (17, false) }
abbrev oClkN20 : Oper := { dst := some 33, op := .move (.tmp 3), type := 3, pos := "l09_cluster.go:52", after := #[{ on := 17, ground := .guard }], guard := some (17, false) }
abbrev oClkN21 : Oper := { dst := some 34, op := .indexAddr 32 (.tmp 32) (.tmp 33), type := 0, pos := "l09_cluster.go:52", after := #[{ on := 19, ground := .data }, { on := 20, ground := .data }, { on := 17, ground := .guard }], guard := some (17, false) }
abbrev oClkN22 : Oper := { dst := some 35, op := .load 74 (.tmp 34), type := 74, pos := "l09_cluster.go:52", after := #[{ on := 21, ground := .data }, { on := 17, ground := .guard }], guard := some (17, false) }
abbrev oClkN23 : Oper := { dst := some 36, op := .load 71 (.tmp 4), type := 71, pos := "l09_cluster.go:52", after := #[{ on := 17, ground := .guard }], guard := some (17, false) }
abbrev oClkN24 : Oper := { dst := some 37, op := .call { callee := .value (.func 65), args := #[.tmp 36], argTypes := #[71] }, type := 76, pos := "l09_cluster.go:52", after := #[{ on := 23, ground := .data }, { on := 17, ground := .chain }, { on := 17, ground := .guard }], guard := some (17, false) }
abbrev oClkN25 : Oper := { dst := some 38, op := .call { callee := .value (.func 64), args := #[.tmp 35, .tmp 37], argTypes := #[74, 76] }, type := 4, pos := "l09_cluster.go:52", after := #[{ on := 22, ground := .data }, { on := 24, ground := .data }, { on := 24, ground := .chain }, { on := 17, ground := .guard }], guard := some (17, false) }
abbrev oClkN26 : Oper := { dst := some 39, op := .unOp .not 4 (.tmp 38), type := 4, pos := "l09_cluster.go:52", after := #[{ on := 25, ground := .data }, { on := 17, ground := .guard }], guard := some (17, false) }
abbrev oClkN27 : Oper := { dst := some 40, op := .pick (.tmp 30) (.const (.bool true)) (.tmp 39), type := 4, pos := "l09_cluster.go:52", after := #[{ on := 17, ground := .data }, { on := 26, ground := .data }], guard := none }
theorem nodeB_state {id nd tm vt ro cm el wt : Int} {up : Bool} {l : List Ent} {lv lx lg : List Int} (h : nodeB id nd tm vt ro cm el wt up l lv lx lg = true) : stateB tm vt l = true := by
 unfold nodeB at h
 simp only [Bool.and_eq_true] at h
 exact h.1.1.1.1.1.1.2
set_option maxHeartbeats 4000000 in
set_option maxRecDepth 100000 in
theorem inodesok (an sa : Option Addr) (kn ks nn : Nat) (wv dv : Value) (N : List NdA) (S : List StA) (HN : Hid (N.length = nn)) (HS : Hid (S.length = nn)) (hn : nn ≤ 5) (HF : Hid (∀ p ∈ N, NdA.fits 1048576 p)) (HFS : Hid (∀ p ∈ S, p.1.size ≤ 1048576)) (R : Bool) (HR : Hid (R = nodesB nn 0 N S)) (w : World) (hE : Errs9 w) (hN : RowV w an (N.flatMap cN)) (hNE : ∀ p ∈ N, ∀ r ∈ nrows p, r.read w) (hS : RowV w sa (S.flatMap cSt)) :
  Calls Tryz.prog 46 #[.agg #[.slice an nn kn, .slice sa nn ks, wv, dv]] w fun e w' => e = .returned (.bool R) ∧ Below w.heap.size w w' := by
 have B0 := hide (Go.Joins.below_alloc1 w (.cells #[.slice an nn kn, .slice sa nn ks, wv, dv] 35))
 have C0 := hide (BF.new w #[.slice an nn kn, .slice sa nn ks, wv, dv] 35)
 have HRN := hide hN
 have HRE := hide hNE
 have HRS := hide hS
 have HEE := hide hE
 have HCN := hide (flat_len (c := cN) (z := 13) (fun p => rfl) N)
 have HCS := hide (flat_len (c := cSt) (z := 2) (fun p => rfl) S)
 clear hN hNE hS hE
 go_enter Tryz.func46, Tryz.ntmps46
 go_wp2_with fail
 go_loopw [8] (fun i wr => ∃ k : Nat, k ≤ nn ∧ i = .int .i64 k ∧ Hid (R = nodesB nn k (N.drop k) (S.drop k)) ∧ Hid (Below w.heap.size w wr) ∧ Hid (BF w.heap.size #[.slice an nn kn, .slice sa nn ks, wv, dv] wr)) (fun i _ => nn - (intOf i).toNat)
 case atStart => exact ⟨0, by omega, rfl, HR, B0, C0⟩
 case round =>
  obtain ⟨k, hk, rfl, HD, HB, HC⟩ := hrel
  clear B0 C0
  by_cases hlt : k < nn
  ·have hkn : k < N.length := by rw [unhide HN]; exact hlt
   have hks : k < S.length := by rw [unhide HS]; exact hlt
   obtain ⟨b, off, rfl, hblt, hcn⟩ := (unhide HRN).at (by rw [unhide HCN, unhide HN]; omega)
   obtain ⟨sb, so, rfl, hslt, hcs⟩ := (unhide HRS).at (by rw [unhide HCS, unhide HS]; omega)
   have m1 := (row_N13 hcn k hkn).below (unhide HB) hblt
   have m2 := (row_S2 hcs k hks).below (unhide HB) hslt
   have hfit := unhide HF _ (List.getElem_mem hkn)
   have hrd := nd_rows (fun r hr => (unhide HRE _ (List.getElem_mem hkn) r hr).below (unhide HB))
   have hdz := unhide HFS _ (List.getElem_mem hks)
   have HD2 : Hid (R = (oneB nn k N[k].n S[k] && nodesB nn (k + 1) (N.drop (k + 1)) (S.drop (k + 1)))) := by show _ = _; rw [unhide HD]; exact nodes_step hkn hks
   have hslt2 := Nat.lt_of_lt_of_le hslt (unhide HB).size
   clear HD hcn hcs hslt
   generalize N[k] = P at m1 hfit hrd HD2
   generalize S[k] = q at m2 hdz HD2
   obtain ⟨⟨id, nd, tm, vt, ro, up, l, cm, el, wt, lv, lx, lg⟩, ea, ec, va, vc, xa, xc, ga, gc⟩ := P
   obtain ⟨d, s⟩ := q
   obtain ⟨f0, fv, fx, fg, fs⟩ := hfit
   obtain ⟨n0, hnn0⟩ : ∃ n0, l.length = n0 := ⟨_, rfl⟩
   have HN0 : Hid (l.length = n0) := hnn0
   obtain ⟨nv, hnnv⟩ : ∃ nv, lv.length = nv := ⟨_, rfl⟩
   have HNv : Hid (lv.length = nv) := hnnv
   obtain ⟨nx, hnnx⟩ : ∃ nx, lx.length = nx := ⟨_, rfl⟩
   have HNx : Hid (lx.length = nx) := hnnx
   obtain ⟨ng, hnng⟩ : ∃ ng, lg.length = ng := ⟨_, rfl⟩
   have HNg : Hid (lg.length = ng) := hnng
   simp only [hnn0, hnnv, hnnx, hnng] at f0 fv fx fg
   unfold N13 at m1
   unfold S2 at m2
   simp only [hnn0, hnnv, hnnx, hnng] at m1
   simp only at m2 hdz
   have FS : Hid (∀ k (h : k < l.length), l[k].2.size ≤ 1048576) := fs
   have HDS : Hid (d.size ≤ maxLen) := by show _ ≤ _; unfold maxLen; omega
   obtain ⟨b1, hb1⟩ : ∃ b1, b1 = nodeB id nd tm vt ro cm el wt up l lv lx lg := ⟨_, rfl⟩
   obtain ⟨b2, hb2⟩ : ∃ b2, b2 = ldB d s tm vt l := ⟨_, rfl⟩
   have HB1 := hide hb1
   have HB2 := hide hb2
   have HD3 : Hid (R = (decide (id = (k : Int)) && decide (nd = (nn : Int)) && b1 && b2 && nodesB nn (k + 1) (N.drop (k + 1)) (S.drop (k + 1)))) := by show _ = _; rw [unhide HD2]; unfold oneB; simp only; rw [hb1, hb2]
   have i1 : (k : Int) < (nn : Int) := by omega
   have i0 : (0 : Int) ≤ (k : Int) := by omega
   have TB := hide (Go.Joins.below_alloc1 wr (Obj.cells #[.int .i64 id, .int .i64 nd, .int .i64 tm, .int .i64 vt, .int .i64 ro, .bool up, .slice ea n0 ec, .int .i64 cm, .int .i64 el, .int .i64 wt, .slice va nv vc, .slice xa nx xc, .slice ga ng gc] 71))
   have BB := hide ((unhide HB).trans ((unhide TB).mono (unhide HB).size))
   have NB := hide (BF.new wr #[.int .i64 id, .int .i64 nd, .int .i64 tm, .int .i64 vt, .int .i64 ro, .bool up, .slice ea n0 ec, .int .i64 cm, .int .i64 el, .int .i64 wt, .slice va nv vc, .slice xa nx xc, .slice ga ng gc] 71)
   have CB := hide ((unhide HC).alloc (Obj.cells #[.int .i64 id, .int .i64 nd, .int .i64 tm, .int .i64 vt, .int .i64 ro, .bool up, .slice ea n0 ec, .int .i64 cm, .int .i64 el, .int .i64 wt, .slice va nv vc, .slice xa nx xc, .slice ga ng gc] 71))
   have E0 := hide (hrd.1.below (unhide TB))
   have Ev := hide (hrd.2.1.below (unhide TB))
   have Ex := hide (hrd.2.2.1.below (unhide TB))
   have Eg := hide (hrd.2.2.2.below (unhide TB))
   have EE := hide ((unhide HEE).below (unhide BB))
   have M2 := hide (And.intro ((unhide TB).cell (p := ⟨sb, so + k * 2, none⟩) hslt2 |>.trans m2.1) ((unhide TB).cell (p := ⟨sb, so + k * 2 + 1, none⟩) hslt2 |>.trans m2.2))
   have SL := hide (Nat.lt_of_lt_of_le hslt2 (unhide TB).size)
   clear m2 hrd hdz HD2 hb1 hb2 hnn0 hnnv hnnx hnng fs hslt2 HRN HRS HCN HCS TB hkn hks
   go_wp2_with fail
   obtain ⟨nb, hnb⟩ : ∃ nb, nb = wr.heap.size := ⟨_, rfl⟩
   rw [← hnb] at NB ⊢
   clear hnb m1
   generalize wr.alloc (Obj.cells #[.int .i64 id, .int .i64 nd, .int .i64 tm, .int .i64 vt, .int .i64 ro, .bool up, .slice ea n0 ec, .int .i64 cm, .int .i64 el, .int .i64 wt, .slice va nv vc, .slice xa nx xc, .slice ga ng gc] 71) = wa at BB NB CB E0 Ev Ex Eg EE M2 SL ⊢
   have SK : Hid (∀ w2, Below wa.heap.size wa w2 → (fun w' => (∀ o, w'.cell? ⟨nb, o, none⟩ = (#[.int .i64 id, .int .i64 nd, .int .i64 tm, .int .i64 vt, .int .i64 ro, .bool up, .slice ea n0 ec, .int .i64 cm, .int .i64 el, .int .i64 wt, .slice va nv vc, .slice xa nx xc, .slice ga ng gc] : Array Value)[o]?) ∧ (∀ o, w'.cell? ⟨w.heap.size, o, none⟩ = (#[.slice (some ⟨b, off, none⟩) nn kn, .slice (some ⟨sb, so, none⟩) nn ks, wv, dv] : Array Value)[o]?) ∧ w'.cell? ⟨sb, so + k * 2, none⟩ = some (.string d) ∧ w'.cell? ⟨sb, so + k * 2 + 1, none⟩ = some (.int .i64 s)) w2) := fun w2 hb => ⟨((unhide NB).below hb).S, ((unhide CB).below hb).S, (hb.cell (p := ⟨sb, so + k * 2, none⟩) (unhide SL)).trans (unhide M2).1, (hb.cell (p := ⟨sb, so + k * 2 + 1, none⟩) (unhide SL)).trans (unhide M2).2⟩
   have TD : Hid (Below wa.heap.size wa wa.drew) := (Below.refl _ _).drew
   clear M2 SL HB HC
   by_cases q1 : id = (k : Int)
   ·by_cases q2 : nd = (nn : Int)
    ·have g1 : (id != (k : Int)) = false := by simpa using q1
     have g2 : (nd != (nn : Int)) = false := by simpa using q2
     have HD3' : Hid (R = (b1 && b2 && nodesB nn (k + 1) (N.drop (k + 1)) (S.drop (k + 1)))) := by show _ = _; rw [unhide HD3, decide_eq_true q1, decide_eq_true q2]; simp
     clear q1 q2 HD3
     cases b1
     ·have HD4 : Hid (R = false) := by show _ = _; rw [unhide HD3']; simp
      refine wp_region_held_drew (S := fun w' => (∀ o, w'.cell? ⟨nb, o, none⟩ = (#[.int .i64 id, .int .i64 nd, .int .i64 tm, .int .i64 vt, .int .i64 ro, .bool up, .slice ea n0 ec, .int .i64 cm, .int .i64 el, .int .i64 wt, .slice va nv vc, .slice xa nx xc, .slice ga ng gc] : Array Value)[o]?) ∧ (∀ o, w'.cell? ⟨w.heap.size, o, none⟩ = (#[.slice (some ⟨b, off, none⟩) nn kn, .slice (some ⟨sb, so, none⟩) nn ks, wv, dv] : Array Value)[o]?) ∧ w'.cell? ⟨sb, so + k * 2, none⟩ = some (.string d) ∧ w'.cell? ⟨sb, so + k * 2 + 1, none⟩ = some (.int .i64 s)) (by kernel_rfl) (unhide SK _ (unhide TD)) (fun hHeld => ?_)
      generalize wa.drew = wd at TD hHeld ⊢
      refine wtv 0 (oi := oClkN0) ?_
      refine wtv 1 (oi := oClkN1) ?_
      refine wtv 2 (oi := oClkN2) ?_
      refine wtv 3 (oi := oClkN3) ?_
      refine wtv 4 (oi := oClkN4) ?_
      refine wtv 5 (oi := oClkN5) ?_
      refine wtv 6 (oi := oClkN6) ?_
      refine wtv 7 (oi := oClkN7) ?_
      refine wtv 8 (oi := oClkN8) ?_
      refine wtv 9 (oi := oClkN9) ?_
      refine wtv 10 (oi := oClkN10) ?_
      refine wtv 11 (oi := oClkN11) ?_
      refine wtv 12 (oi := oClkN12) ?_
      refine wtv 13 (oi := oClkN13) ?_
      refine wpAnyH_ready (rs := [14]) (by kernel_rfl) (by simp) ?_
      refine AllReadyH.cons (o := oClkN14) rfl (fun K hK => ?_) AllReadyH.nil
      go_simp
      refine (inodeok id nd tm vt ro cm el wt up ea ec n0 l HN0 va vc nv lv HNv xa xc nx lx HNx ga gc ng lg HNg f0 fv fx fg FS false HB1 _ ((unhide E0).below (unhide TD)) ((unhide Ev).below (unhide TD)) ((unhide Ex).below (unhide TD)) ((unhide Eg).below (unhide TD))).mono ?_
      rintro e w2 ⟨rfl, hb2⟩
      have T2 := hide ((unhide TD).trans (hb2.mono (unhide TD).size))
      clear hb2
      go_wp2_with fail
      refine hK.out _ _ ?_ (fun hHeld14 => ?_)
      ·exact unhide SK _ (unhide T2)
      clear hK K
      try simp only [Act.put, qqA, qqB, qqC]
      refine wtv 15 (oi := oClkN15) ?_
      refine wtv 16 (oi := oClkN16) ?_
      refine wtv 17 (oi := oClkN17) ?_
      refine wtu 18 (oi := oClkN18) ?_
      refine wtu 19 (oi := oClkN19) ?_
      refine wtu 20 (oi := oClkN20) ?_
      refine wtu 21 (oi := oClkN21) ?_
      refine wtu 22 (oi := oClkN22) ?_
      refine wtu 23 (oi := oClkN23) ?_
      refine wtu 24 (oi := oClkN24) ?_
      refine wtu 25 (oi := oClkN25) ?_
      refine wtu 26 (oi := oClkN26) ?_
      refine wtv 27 (oi := oClkN27) ?_
      refine wpAnyH_done (by kernel_rfl) ?_ _
      have BR := hide ((unhide BB).trans ((unhide T2).mono (unhide BB).size))
      clear SK TD T2 hHeld hHeld14 BB NB CB
      go_wp2_with fail
      go_ret
      exact ⟨by rw [unhide HD4]; rfl, unhide BR⟩
     ·have HST : Hid (stateB tm vt l = true) := nodeB_state (unhide HB1).symm
      have HD4 : Hid (R = (b2 && nodesB nn (k + 1) (N.drop (k + 1)) (S.drop (k + 1)))) := by show _ = _; rw [unhide HD3']; simp
      refine wp_region_held_drew (S := fun w' => (∀ o, w'.cell? ⟨nb, o, none⟩ = (#[.int .i64 id, .int .i64 nd, .int .i64 tm, .int .i64 vt, .int .i64 ro, .bool up, .slice ea n0 ec, .int .i64 cm, .int .i64 el, .int .i64 wt, .slice va nv vc, .slice xa nx xc, .slice ga ng gc] : Array Value)[o]?) ∧ (∀ o, w'.cell? ⟨w.heap.size, o, none⟩ = (#[.slice (some ⟨b, off, none⟩) nn kn, .slice (some ⟨sb, so, none⟩) nn ks, wv, dv] : Array Value)[o]?) ∧ w'.cell? ⟨sb, so + k * 2, none⟩ = some (.string d) ∧ w'.cell? ⟨sb, so + k * 2 + 1, none⟩ = some (.int .i64 s)) (by kernel_rfl) (unhide SK _ (unhide TD)) (fun hHeld => ?_)
      generalize wa.drew = wd at TD hHeld ⊢
      refine wtv 0 (oi := oClkN0) ?_
      refine wtv 1 (oi := oClkN1) ?_
      refine wtv 2 (oi := oClkN2) ?_
      refine wtv 3 (oi := oClkN3) ?_
      refine wtv 4 (oi := oClkN4) ?_
      refine wtv 5 (oi := oClkN5) ?_
      refine wtv 6 (oi := oClkN6) ?_
      refine wtv 7 (oi := oClkN7) ?_
      refine wtv 8 (oi := oClkN8) ?_
      refine wtv 9 (oi := oClkN9) ?_
      refine wtv 10 (oi := oClkN10) ?_
      refine wtv 11 (oi := oClkN11) ?_
      refine wtv 12 (oi := oClkN12) ?_
      refine wtv 13 (oi := oClkN13) ?_
      refine wpAnyH_ready (rs := [14]) (by kernel_rfl) (by simp) ?_
      refine AllReadyH.cons (o := oClkN14) rfl (fun K hK => ?_) AllReadyH.nil
      go_simp
      refine (inodeok id nd tm vt ro cm el wt up ea ec n0 l HN0 va vc nv lv HNv xa xc nx lx HNx ga gc ng lg HNg f0 fv fx fg FS true HB1 _ ((unhide E0).below (unhide TD)) ((unhide Ev).below (unhide TD)) ((unhide Ex).below (unhide TD)) ((unhide Eg).below (unhide TD))).mono ?_
      rintro e w2 ⟨rfl, hb2⟩
      have T2 := hide ((unhide TD).trans (hb2.mono (unhide TD).size))
      clear hb2
      go_wp2_with fail
      refine hK.out _ _ ?_ (fun hHeld14 => ?_)
      ·exact unhide SK _ (unhide T2)
      clear hK K
      try simp only [Act.put, qqA, qqB, qqC]
      refine wtv 15 (oi := oClkN15) ?_
      refine wtv 16 (oi := oClkN16) ?_
      refine wtv 17 (oi := oClkN17) ?_
      refine wtv 18 (oi := oClkN18) ?_
      refine wtv 19 (oi := oClkN19) ?_
      refine wtv 20 (oi := oClkN20) ?_
      refine wtv 21 (oi := oClkN21) ?_
      refine wtv 22 (oi := oClkN22) ?_
      refine wtv 23 (oi := oClkN23) ?_
      refine wpAnyH_ready (rs := [24]) (by kernel_rfl) (by simp) ?_
      refine AllReadyH.cons (o := oClkN24) rfl (fun K hK => ?_) AllReadyH.nil
      go_simp
      refine (instate id nd tm vt ro cm el wt up ea ec n0 va vc nv xa xc nx ga gc ng _).mono ?_
      rintro e w3 ⟨rfl, hb3⟩
      have T3 := hide ((unhide T2).trans (hb3.mono (unhide T2).size))
      clear hb3
      go_wp2_with fail
      refine hK.out _ _ ?_ (fun hHeld24 => ?_)
      ·exact unhide SK _ (unhide T3)
      clear hK K
      try simp only [Act.put, qqA, qqB, qqC]
      refine wpAnyH_ready (rs := [25]) (by kernel_rfl) (by simp) ?_
      refine AllReadyH.cons (o := oClkN25) rfl (fun K hK => ?_) AllReadyH.nil
      go_simp
      refine (ileads d s HDS tm vt ea ec n0 l HN0 f0 FS HST b2 HB2 _ ((unhide EE).below (unhide T3)) ((unhide E0).below (unhide T3))).mono ?_
      rintro e w4 ⟨rfl, hb4⟩
      have T4 := hide ((unhide T3).trans (hb4.mono (unhide T3).size))
      clear hb4
      go_wp2_with fail
      refine hK.out _ _ ?_ (fun hHeld25 => ?_)
      ·exact unhide SK _ (unhide T4)
      clear hK K
      try simp only [Act.put, qqA, qqB, qqC]
      refine wtv 26 (oi := oClkN26) ?_
      refine wtv 27 (oi := oClkN27) ?_
      refine wpAnyH_done (by kernel_rfl) ?_ _
      have BR := hide ((unhide BB).trans ((unhide T4).mono (unhide BB).size))
      have CR := hide ((unhide CB).below (unhide T4))
      clear SK TD T2 T3 T4 hHeld hHeld14 hHeld24 hHeld25 BB NB CB
      cases b2
      ·have HD5 : Hid (R = false) := by show _ = _; rw [unhide HD4]; rfl
       go_wp2_with fail
       go_ret
       exact ⟨by rw [unhide HD5]; rfl, unhide BR⟩
      ·have HD5 : Hid (R = nodesB nn (k + 1) (N.drop (k + 1)) (S.drop (k + 1))) := by show _ = _; rw [unhide HD4]; rfl
       go_wp2_with fail
       go_roundw
       case rel => exact ⟨k + 1, by omega, by go_num, HD5, BR, CR⟩
       case measure => simp [intOf]; omega
    ·have g1 : (id != (k : Int)) = false := by simpa using q1
     have g2 : (nd != (nn : Int)) = true := by simpa using q2
     have HD4 : Hid (R = false) := by show _ = _; rw [unhide HD3, decide_eq_false q2]; simp
     clear q1 q2 HD3
     refine wp_region_held_drew (S := fun w' => (∀ o, w'.cell? ⟨nb, o, none⟩ = (#[.int .i64 id, .int .i64 nd, .int .i64 tm, .int .i64 vt, .int .i64 ro, .bool up, .slice ea n0 ec, .int .i64 cm, .int .i64 el, .int .i64 wt, .slice va nv vc, .slice xa nx xc, .slice ga ng gc] : Array Value)[o]?) ∧ (∀ o, w'.cell? ⟨w.heap.size, o, none⟩ = (#[.slice (some ⟨b, off, none⟩) nn kn, .slice (some ⟨sb, so, none⟩) nn ks, wv, dv] : Array Value)[o]?) ∧ w'.cell? ⟨sb, so + k * 2, none⟩ = some (.string d) ∧ w'.cell? ⟨sb, so + k * 2 + 1, none⟩ = some (.int .i64 s)) (by kernel_rfl) (unhide SK _ (unhide TD)) (fun hHeld => ?_)
     generalize wa.drew = wd at TD hHeld ⊢
     refine wtv 0 (oi := oClkN0) ?_
     refine wtv 1 (oi := oClkN1) ?_
     refine wtv 2 (oi := oClkN2) ?_
     refine wtv 3 (oi := oClkN3) ?_
     refine wtv 4 (oi := oClkN4) ?_
     refine wtv 5 (oi := oClkN5) ?_
     refine wtv 6 (oi := oClkN6) ?_
     refine wtv 7 (oi := oClkN7) ?_
     refine wtv 8 (oi := oClkN8) ?_
     refine wtv 9 (oi := oClkN9) ?_
     refine wtv 10 (oi := oClkN10) ?_
     refine wtv 11 (oi := oClkN11) ?_
     refine wtv 12 (oi := oClkN12) ?_
     refine wtu 13 (oi := oClkN13) ?_
     refine wtu 14 (oi := oClkN14) ?_
     refine wtu 15 (oi := oClkN15) ?_
     refine wtv 16 (oi := oClkN16) ?_
     refine wtv 17 (oi := oClkN17) ?_
     refine wtu 18 (oi := oClkN18) ?_
     refine wtu 19 (oi := oClkN19) ?_
     refine wtu 20 (oi := oClkN20) ?_
     refine wtu 21 (oi := oClkN21) ?_
     refine wtu 22 (oi := oClkN22) ?_
     refine wtu 23 (oi := oClkN23) ?_
     refine wtu 24 (oi := oClkN24) ?_
     refine wtu 25 (oi := oClkN25) ?_
     refine wtu 26 (oi := oClkN26) ?_
     refine wtv 27 (oi := oClkN27) ?_
     refine wpAnyH_done (by kernel_rfl) ?_ _
     have BR := hide ((unhide BB).trans ((unhide TD).mono (unhide BB).size))
     clear SK TD hHeld BB NB CB
     go_wp2_with fail
     go_ret
     exact ⟨by rw [unhide HD4]; rfl, unhide BR⟩
   ·have g1 : (id != (k : Int)) = true := by simpa using q1
    have HD4 : Hid (R = false) := by show _ = _; rw [unhide HD3, decide_eq_false q1]; simp
    clear q1 HD3
    refine wp_region_held_drew (S := fun w' => (∀ o, w'.cell? ⟨nb, o, none⟩ = (#[.int .i64 id, .int .i64 nd, .int .i64 tm, .int .i64 vt, .int .i64 ro, .bool up, .slice ea n0 ec, .int .i64 cm, .int .i64 el, .int .i64 wt, .slice va nv vc, .slice xa nx xc, .slice ga ng gc] : Array Value)[o]?) ∧ (∀ o, w'.cell? ⟨w.heap.size, o, none⟩ = (#[.slice (some ⟨b, off, none⟩) nn kn, .slice (some ⟨sb, so, none⟩) nn ks, wv, dv] : Array Value)[o]?) ∧ w'.cell? ⟨sb, so + k * 2, none⟩ = some (.string d) ∧ w'.cell? ⟨sb, so + k * 2 + 1, none⟩ = some (.int .i64 s)) (by kernel_rfl) (unhide SK _ (unhide TD)) (fun hHeld => ?_)
    generalize wa.drew = wd at TD hHeld ⊢
    refine wtv 0 (oi := oClkN0) ?_
    refine wtv 1 (oi := oClkN1) ?_
    refine wtv 2 (oi := oClkN2) ?_
    refine wtv 3 (oi := oClkN3) ?_
    refine wtv 4 (oi := oClkN4) ?_
    refine wtu 5 (oi := oClkN5) ?_
    refine wtu 6 (oi := oClkN6) ?_
    refine wtu 7 (oi := oClkN7) ?_
    refine wtu 8 (oi := oClkN8) ?_
    refine wtu 9 (oi := oClkN9) ?_
    refine wtu 10 (oi := oClkN10) ?_
    refine wtv 11 (oi := oClkN11) ?_
    refine wtv 12 (oi := oClkN12) ?_
    refine wtu 13 (oi := oClkN13) ?_
    refine wtu 14 (oi := oClkN14) ?_
    refine wtu 15 (oi := oClkN15) ?_
    refine wtv 16 (oi := oClkN16) ?_
    refine wtv 17 (oi := oClkN17) ?_
    refine wtu 18 (oi := oClkN18) ?_
    refine wtu 19 (oi := oClkN19) ?_
    refine wtu 20 (oi := oClkN20) ?_
    refine wtu 21 (oi := oClkN21) ?_
    refine wtu 22 (oi := oClkN22) ?_
    refine wtu 23 (oi := oClkN23) ?_
    refine wtu 24 (oi := oClkN24) ?_
    refine wtu 25 (oi := oClkN25) ?_
    refine wtu 26 (oi := oClkN26) ?_
    refine wtv 27 (oi := oClkN27) ?_
    refine wpAnyH_done (by kernel_rfl) ?_ _
    have BR := hide ((unhide BB).trans ((unhide TD).mono (unhide BB).size))
    clear SK TD hHeld BB NB CB
    go_wp2_with fail
    go_ret
    exact ⟨by rw [unhide HD4]; rfl, unhide BR⟩
  ·have HD4 : Hid (R = true) := by show _ = _; rw [unhide HD, nodes_end (by rw [unhide HN]; omega)]
   go_wp2_with fail
   go_ret
   exact ⟨by rw [unhide HD4]; rfl, unhide HB⟩
end Go.Proofs.YtfogppnijdjakaaGreatDoor
