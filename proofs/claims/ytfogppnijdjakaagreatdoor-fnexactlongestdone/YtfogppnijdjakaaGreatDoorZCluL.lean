/- Clusters in the laws' own words: sizes, copies, two that are alike. -/
import Derived.Test.YtfogppnijdjakaaGreatDoorZCluN
import Derived.Test.YtfogppnijdjakaaGreatDoorZCluT
import Derived.Test.YtfogppnijdjakaaGreatDoorZG7
import Derived.Test.YtfogppnijdjakaaGreatDoorZG2
namespace Go.Proofs.YtfogppnijdjakaaGreatDoor
open Go.ChangeShapes Go.WideShapes Go.ChangeAt Go.RowKit
set_option linter.unusedVariables false
/-- A cluster: its nodes, stores, messages and data, and where they lie. -/
structure Clu where
 nds : List NdA
 sts : List StA
 wire : List MgA
 done : List ByteArray
def Clu.fits (M : Nat) (c : Clu) : Prop := (c.nds.length ≤ M ∧ c.sts.length ≤ M ∧ c.wire.length ≤ M ∧ c.done.length ≤ M) ∧ (∀ p ∈ c.nds, NdA.fits M p) ∧ (∀ p ∈ c.sts, p.1.size ≤ M) ∧ (∀ p ∈ c.wire, Mg.fits M p.1) ∧ ∀ k (h : k < c.done.length), c.done[k].size ≤ M
/-- Two with the same in them. -/
def Clu.same (c d : Clu) : Prop := c.nds.map (·.n) = d.nds.map (·.n) ∧ c.sts = d.sts ∧ c.wire.map (·.1) = d.wire.map (·.1) ∧ c.done = d.done
structure CluR (w : World) (nv sv wv dv : Value) (c : Clu) : Prop where
 n : RRow cN nrows w nv c.nds
 s : RRow cSt norows w sv c.sts
 t : MRow w wv c.wire
 d : ∃ a cap, dv = .slice a c.done.length cap ∧ RowV w a (cS c.done)
theorem MRow.below' {w w' : World} {v : Value} {L : List MgA} (h : MRow w v L) (hb : Below w.heap.size w w') : MRow w' v L := MRow.of (h.to.below hb)
theorem CluR.below {w w' : World} {nv sv wv dv : Value} {c : Clu} (h : CluR w nv sv wv dv c) (hb : Below w.heap.size w w') : CluR w' nv sv wv dv c := by
 obtain ⟨h1, h2, h3, a, cap, e, h4⟩ := h
 exact ⟨h1.below hb, h2.below hb, h3.below' hb, a, cap, e, h4.below hb⟩
/-- The rows of a cluster, all apart. -/
def Clu.rows (nv sv wv dv : Value) (c : Clu) : List RD :=
 ((([⟨71, 13, nv, c.nds.length, c.nds.flatMap cN⟩] ++ c.nds.flatMap nrows) ++ [⟨74, 2, sv, c.sts.length, c.sts.flatMap cSt⟩]) ++ ([⟨82, 9, wv, c.wire.length, c.wire.flatMap cM⟩] ++ c.wire.flatMap mrows)) ++ [⟨9, 1, dv, c.done.length, cS c.done⟩]
theorem CluR.of_own {w : World} {lo : Nat} {nv sv wv dv : Value} {c : Clu} (h : FOwn w lo (c.rows nv sv wv dv)) : CluR w nv sv wv dv c := by
 unfold Clu.rows at h
 have h1 := h.left.left.left
 have h2 := h.left.left.right
 have h3 := h.left.right
 have h4 := h.right
 refine ⟨RRow.of_own (h1.left.own _ (List.mem_singleton.2 rfl)) h1.right, ?_, MRow.of (RRow.of_own (h3.left.own _ (List.mem_singleton.2 rfl)) h3.right), ?_⟩
 ·exact RRow.of_own (rows := norows) (h2.own _ (List.mem_singleton.2 rfl)) (by rw [norows_nil]; exact FOwn.nil _ lo)
 ·obtain ⟨a, cap, e, hr⟩ := RD.read_own (h4.own _ (List.mem_singleton.2 rfl))
  exact ⟨a, cap, e, hr⟩
def Clu.bulk (c : Clu) : Nat := c.nds.length + (c.nds.map ndW).sum + c.sts.length + c.wire.length + (c.wire.map mgW).sum + c.done.length
set_option maxHeartbeats 4000000 in
set_option maxRecDepth 100000 in
theorem szCluB (nv sv wv dv : Value) (c : Clu) (HF : Hid (c.fits maxLen)) (w : World) (h : CluR w nv sv wv dv c) :
  Calls Tryz.prog 4 #[.agg #[nv, sv, wv, dv], .int .i64 1048576] w fun e w' => ∃ x : Int, e = .returned (.int .i64 x) ∧ Below w.heap.size w w' ∧ (x = -1 ∨ ∃ z : Nat, x = (z : Int) ∧ c.fits 1048576 ∧ c.bulk ≤ 1048576) := by
 have B0 := hide (Go.Joins.below_alloc1 w (.cells #[nv, sv, wv, dv] 27))
 have A0 := hide (BF.new w #[nv, sv, wv, dv] 27)
 have HR := hide h
 obtain ⟨⟨f1, f2, f3, f4⟩, g1, g2, g3, g4⟩ := unhide HF
 have F1 := hide f1
 have F2 := hide f2
 have F3 := hide f3
 have F4 := hide f4
 have G1 := hide g1
 have G2 := hide g2
 have G3 := hide g3
 have G4 := hide g4
 obtain ⟨ad, cd, rfl, hd⟩ := h.d
 have HD := hide hd
 obtain ⟨nd, hnd⟩ : ∃ nd, c.done.length = nd := ⟨_, rfl⟩
 have HND : Hid (c.done.length = nd) := hnd
 rw [hnd] at A0 B0 ⊢
 have F4' : Hid (nd ≤ maxLen) := by show _ ≤ _; rw [← hnd]; exact f4
 clear h hd f1 f2 f3 f4 g1 g2 g3 g4 hnd
 go_enter Tryz.func4, Tryz.ntmps4
 go_wp2_with fail
 refine (szNodes _ _ F1 c.nds (hide rfl) 1048576 (by omega) G1 _ ((unhide HR).below (unhide B0)).n).mono ?_
 rintro e w1 ⟨x, rfl, hb1, hx⟩
 have B1 := hide ((unhide B0).trans (hb1.mono (unhide B0).size))
 have A1 := hide ((unhide A0).below hb1)
 clear hb1 B0 A0
 rcases hx with rfl | ⟨z1, rfl, hz1, q1⟩
 ·go_wp2_with fail
  go_ret
  exact ⟨_, rfl, unhide B1, .inl rfl⟩
 have a1 := (unhide A1).S
 have hz01 : ¬ (z1 : Int) < 0 := by omega
 have HZ1 := hide hz1
 have Q1 := hide q1
 clear hz1 q1
 go_wp2_with fail
 refine (szStores _ _ F2 c.sts (hide rfl) z1 (by have := unhide HZ1; omega) G2 _ ((unhide HR).below (unhide B1)).s).mono ?_
 rintro e w2 ⟨x, rfl, hb2, hx⟩
 have B2 := hide ((unhide B1).trans (hb2.mono (unhide B1).size))
 have A2 := hide ((unhide A1).below hb2)
 clear hb2 B1 A1 a1
 rcases hx with rfl | ⟨z2, rfl, hz2, q2⟩
 ·go_wp2_with fail
  go_ret
  exact ⟨_, rfl, unhide B2, .inl rfl⟩
 have a2 := (unhide A2).S
 have hz02 : ¬ (z2 : Int) < 0 := by omega
 have HZ2 := hide hz2
 have Q2 := hide q2
 clear hz2 q2 hz01
 go_wp2_with fail
 refine (szMessages _ _ F3 c.wire (hide rfl) z2 (by have := unhide HZ1; have := unhide HZ2; omega) G3 _ ((unhide HR).below (unhide B2)).t).mono ?_
 rintro e w3 ⟨x, rfl, hb3, hx⟩
 have B3 := hide ((unhide B2).trans (hb3.mono (unhide B2).size))
 have A3 := hide ((unhide A2).below hb3)
 clear hb3 B2 A2 a2
 rcases hx with rfl | ⟨z3, rfl, hz3, q3⟩
 ·go_wp2_with fail
  go_ret
  exact ⟨_, rfl, unhide B3, .inl rfl⟩
 have a3 := (unhide A3).S
 have hz03 : ¬ (z3 : Int) < 0 := by omega
 have HZ3 := hide hz3
 have Q3 := hide q3
 clear hz3 q3 hz02
 go_wp2_with fail
 refine (szStrN ad cd nd c.done HND z3 (by have := unhide HZ1; have := unhide HZ2; have := unhide HZ3; omega) F4' G4 _ ((unhide HD).below (unhide B3))).mono ?_
 rintro e w4 ⟨x, rfl, hb4, hx⟩
 have B4 := hide ((unhide B3).trans (hb4.mono (unhide B3).size))
 have A4 := hide ((unhide A3).below hb4)
 clear hb4 B3 A3 a3
 rcases hx with rfl | ⟨z4, rfl, hz4, q40, q4⟩
 ·go_wp2_with fail
  go_ret
  exact ⟨_, rfl, unhide B4, .inl rfl⟩
 have a4 := (unhide A4).S
 have hz04 : ¬ (z4 : Int) < 0 := by omega
 have HZ4 := hide hz4
 have Q4 := hide q4
 have Q40 := hide q40
 clear hz4 q4 q40 hz03
 go_wp2_with fail
 go_ret
 have t1 := unhide HZ1
 have t2 := unhide HZ2
 have t3 := unhide HZ3
 have t4 := unhide HZ4
 exact ⟨_, rfl, unhide B4, .inr ⟨z4, rfl, ⟨⟨by omega, by omega, by omega, by rw [unhide HND]; exact unhide Q40⟩, unhide Q1, unhide Q2, unhide Q3, unhide Q4⟩, by unfold Clu.bulk; rw [unhide HND]; omega⟩⟩
set_option maxHeartbeats 4000000 in
set_option maxRecDepth 100000 in
theorem toClu (nv sv wv dv : Value) (c : Clu) (HF : Hid (c.fits 1048576)) (w : World) (h : CluR w nv sv wv dv c) :
  Calls Tryz.prog 6 #[.agg #[nv, sv, wv, dv]] w fun e w' => ∃ nv' sv' wv' dv' c', e = .returned (.agg #[nv', sv', wv', dv']) ∧ c.same c' ∧ FOwn w' w.heap.size (c'.rows nv' sv' wv' dv') ∧ Below w.heap.size w w' := by
 have HR := hide h
 obtain ⟨⟨f1, f2, f3, f4⟩, g1, g2, g3, g4⟩ := unhide HF
 have F1 := hide f1
 have F2 := hide f2
 have F3 := hide f3
 have F4 := hide f4
 have G1 := hide g1
 have G3 := hide g3
 obtain ⟨ad, cd, rfl, hd⟩ := h.d
 have HD := hide hd
 clear h hd f1 f2 f3 f4 g1 g2 g3 g4
 obtain ⟨nd, hnd⟩ : ∃ nd, c.done.length = nd := ⟨_, rfl⟩
 have HND : Hid (c.done.length = nd) := hnd
 have F4' : Hid (nd ≤ 1048576) := by show _ ≤ _; rw [← hnd]; exact unhide F4
 rw [hnd]
 clear hnd
 have B0 := hide (Go.Joins.below_alloc3 w (Obj.cells #[nv, sv, wv, .slice ad nd cd] 27) (Obj.cells #[.slice none 0 0, .slice none 0 0, .slice none 0 0, .slice none 0 0] 35) (Obj.cells #[.slice none 0 0, .slice none 0 0, .slice none 0 0, .slice none 0 0] 35))
 have A0 := hide (((BF.new w #[nv, sv, wv, .slice ad nd cd] 27).alloc (Obj.cells #[.slice none 0 0, .slice none 0 0, .slice none 0 0, .slice none 0 0] 35)).alloc (Obj.cells #[.slice none 0 0, .slice none 0 0, .slice none 0 0, .slice none 0 0] 35))
 have X0 := hide ((BF.new (w.alloc (Obj.cells #[nv, sv, wv, .slice ad nd cd] 27)) #[.slice none 0 0, .slice none 0 0, .slice none 0 0, .slice none 0 0] 35).alloc (Obj.cells #[.slice none 0 0, .slice none 0 0, .slice none 0 0, .slice none 0 0] 35))
 have O0 := hide (BF.new ((w.alloc (Obj.cells #[nv, sv, wv, .slice ad nd cd] 27)).alloc (Obj.cells #[.slice none 0 0, .slice none 0 0, .slice none 0 0, .slice none 0 0] 35)) #[.slice none 0 0, .slice none 0 0, .slice none 0 0, .slice none 0 0] 35)
 simp only [World.size_alloc] at X0 O0
 have lo1 : w.heap.size ≤ w.heap.size + 1 + 1 := by omega
 have lo2 : w.heap.size ≤ w.heap.size + 1 := by omega
 have ne1 : w.heap.size + 1 + 1 ≠ w.heap.size := by omega
 have ne2 : w.heap.size + 1 + 1 ≠ w.heap.size + 1 := by omega
 have FF0 : Hid (FOwn (((w.alloc (Obj.cells #[nv, sv, wv, .slice ad nd cd] 27)).alloc (Obj.cells #[.slice none 0 0, .slice none 0 0, .slice none 0 0, .slice none 0 0] 35)).alloc (Obj.cells #[.slice none 0 0, .slice none 0 0, .slice none 0 0, .slice none 0 0] 35)) (w.heap.size + 1 + 1 + 1) []) := FOwn.nil _ _
 go_enter Tryz.func6, Tryz.ntmps6
 go_wp2_with fail
 refine (toNodes nv _ (unhide F1) c.nds (hide rfl) G1 _ ((unhide HR).below (unhide B0)).n).mono ?_
 rintro e w1 ⟨rfl, K1, hm1, ho1, fo1, hs1, hb1⟩
 simp only [World.size_alloc] at ho1 fo1 hs1 ⊢
 have B1 := hide ((unhide B0).trans (hb1.mono (unhide B0).size))
 have A1 := hide ((unhide A0).below hb1)
 have X1 := hide ((unhide X0).below hb1)
 have O1 := hide ((unhide O0).below hb1)
 have e1 : c.nds.length = K1.length := by have := congrArg List.length hm1; simpa using this.symm
 rw [e1] at ho1 ⊢
 obtain ⟨p1, hp1⟩ : ∃ p, p = w.heap.size + 1 + 1 + 1 := ⟨_, rfl⟩
 rw [← hp1] at ho1 fo1 hs1 ⊢
 have HP1 := hide hp1
 clear hp1
 have l1 : Hid (w.heap.size + 1 + 1 + 1 ≤ p1) := by show _ ≤ _; rw [unhide HP1]; exact Nat.le_refl _
 have N1 : Hid (FOwn w1 p1 ([⟨71, 13, (.slice (some ⟨p1, 0, none⟩) K1.length K1.length), K1.length, K1.flatMap cN⟩] ++ K1.flatMap nrows)) := (FOwn.one (r := ⟨_, _, (.slice (some ⟨p1, 0, none⟩) K1.length K1.length), _, _⟩) ho1).app fo1 (Nat.le_succ _) (fun r hr i hi => by obtain rfl := List.mem_singleton.1 hr; simp only [Value.ownBlock, Option.some.injEq] at hi; omega)
 have FF1 : Hid (FOwn w1 (w.heap.size + 1 + 1 + 1) ([⟨71, 13, (.slice (some ⟨p1, 0, none⟩) K1.length K1.length), K1.length, K1.flatMap cN⟩] ++ K1.flatMap nrows)) := (unhide N1).low (unhide l1)
 clear ho1 fo1 hs1 hb1 B0 A0 X0 O0 FF0
 have o1 := (unhide O1).S
 have of1 := (unhide O1).F
 have a1 := (unhide A1).S
 have O1 : Hid (BF (w.heap.size + 1 + 1) #[.slice (some ⟨p1, 0, none⟩) K1.length K1.length, .slice none 0 0, .slice none 0 0, .slice none 0 0] _) := (unhide O1).set 0 (by simp) (.slice (some ⟨p1, 0, none⟩) K1.length K1.length)
 replace A1 := hide ((unhide A1).far ⟨w.heap.size + 1 + 1, 0, none⟩ (.slice (some ⟨p1, 0, none⟩) K1.length K1.length) ne1)
 replace X1 := hide ((unhide X1).far ⟨w.heap.size + 1 + 1, 0, none⟩ (.slice (some ⟨p1, 0, none⟩) K1.length K1.length) ne2)
 replace B1 := hide ((unhide B1).setCell (p := ⟨w.heap.size + 1 + 1, 0, none⟩) lo1 (.slice (some ⟨p1, 0, none⟩) K1.length K1.length))
 replace FF1 := hide ((unhide FF1).setC (a := ⟨w.heap.size + 1 + 1, 0, none⟩) (Nat.lt_succ_self _) (.slice (some ⟨p1, 0, none⟩) K1.length K1.length))
 go_wp2_with fail
 refine (toStores sv _ (unhide F2) c.sts (hide rfl) _ ((unhide HR).below (unhide B1)).s).mono ?_
 rintro e w2 ⟨rfl, K2, hm2, ho2, fo2, hs2, hb2⟩
 simp only [World.size_setCell] at ho2 fo2 hs2 ⊢
 have B2 := hide ((unhide B1).trans (hb2.mono (unhide B1).size))
 have A2 := hide ((unhide A1).below hb2)
 have X2 := hide ((unhide X1).below hb2)
 have O2 := hide ((unhide O1).below hb2)
 have e2 : c.sts.length = K2.length := by rw [hm2]
 rw [e2] at ho2 ⊢
 obtain ⟨p2, hp2⟩ : ∃ p, p = w1.heap.size := ⟨_, rfl⟩
 rw [← hp2] at ho2 fo2 hs2 ⊢
 have HP2 := hide hp2
 clear hp2
 have l2 : Hid (w.heap.size + 1 + 1 + 1 ≤ p2) := by show _ ≤ _; rw [unhide HP2]; have := (unhide O1).lt; simp only [World.size_setCell] at this; exact this
 have N2 : Hid (FOwn w2 p2 [⟨74, 2, (.slice (some ⟨p2, 0, none⟩) K2.length K2.length), K2.length, K2.flatMap cSt⟩]) := FOwn.one (r := ⟨_, _, (.slice (some ⟨p2, 0, none⟩) K2.length K2.length), _, _⟩) ho2
 have FF2 : Hid (FOwn w2 (w.heap.size + 1 + 1 + 1) (([⟨71, 13, (.slice (some ⟨p1, 0, none⟩) K1.length K1.length), K1.length, K1.flatMap cN⟩] ++ K1.flatMap nrows) ++ [⟨74, 2, (.slice (some ⟨p2, 0, none⟩) K2.length K2.length), K2.length, K2.flatMap cSt⟩])) := ((unhide FF1).below hb2).app (unhide N2) (unhide l2) (fun r hr i hi => by have h := ((unhide FF1).lt r hr i hi).2; simp only [World.size_setCell] at h; rw [unhide HP2]; exact h)
 clear ho2 fo2 hs2 hb2 B1 A1 X1 O1 FF1 o1 of1 a1
 have o2 := (unhide O2).S
 have of2 := (unhide O2).F
 have a2 := (unhide A2).S
 have O2 : Hid (BF (w.heap.size + 1 + 1) #[.slice (some ⟨p1, 0, none⟩) K1.length K1.length, .slice (some ⟨p2, 0, none⟩) K2.length K2.length, .slice none 0 0, .slice none 0 0] _) := (unhide O2).set 1 (by simp) (.slice (some ⟨p2, 0, none⟩) K2.length K2.length)
 replace A2 := hide ((unhide A2).far ⟨w.heap.size + 1 + 1, 1, none⟩ (.slice (some ⟨p2, 0, none⟩) K2.length K2.length) ne1)
 replace X2 := hide ((unhide X2).far ⟨w.heap.size + 1 + 1, 1, none⟩ (.slice (some ⟨p2, 0, none⟩) K2.length K2.length) ne2)
 replace B2 := hide ((unhide B2).setCell (p := ⟨w.heap.size + 1 + 1, 1, none⟩) lo1 (.slice (some ⟨p2, 0, none⟩) K2.length K2.length))
 replace FF2 := hide ((unhide FF2).setC (a := ⟨w.heap.size + 1 + 1, 1, none⟩) (Nat.lt_succ_self _) (.slice (some ⟨p2, 0, none⟩) K2.length K2.length))
 go_wp2_with fail
 refine (toMessages wv _ (unhide F3) c.wire (hide rfl) G3 _ ((unhide HR).below (unhide B2)).t).mono ?_
 rintro e w3 ⟨rfl, K3, hm3, ho3, fo3, hs3, hb3⟩
 simp only [World.size_setCell] at ho3 fo3 hs3 ⊢
 have B3 := hide ((unhide B2).trans (hb3.mono (unhide B2).size))
 have A3 := hide ((unhide A2).below hb3)
 have X3 := hide ((unhide X2).below hb3)
 have O3 := hide ((unhide O2).below hb3)
 have e3 : c.wire.length = K3.length := by have := congrArg List.length hm3; simpa using this.symm
 rw [e3] at ho3 ⊢
 obtain ⟨p3, hp3⟩ : ∃ p, p = w2.heap.size := ⟨_, rfl⟩
 rw [← hp3] at ho3 fo3 hs3 ⊢
 have HP3 := hide hp3
 clear hp3
 have l3 : Hid (w.heap.size + 1 + 1 + 1 ≤ p3) := by show _ ≤ _; rw [unhide HP3]; have := (unhide O2).lt; simp only [World.size_setCell] at this; exact this
 have N3 : Hid (FOwn w3 p3 ([⟨82, 9, (.slice (some ⟨p3, 0, none⟩) K3.length K3.length), K3.length, K3.flatMap cM⟩] ++ K3.flatMap mrows)) := (FOwn.one (r := ⟨_, _, (.slice (some ⟨p3, 0, none⟩) K3.length K3.length), _, _⟩) ho3).app fo3 (Nat.le_succ _) (fun r hr i hi => by obtain rfl := List.mem_singleton.1 hr; simp only [Value.ownBlock, Option.some.injEq] at hi; omega)
 have FF3 : Hid (FOwn w3 (w.heap.size + 1 + 1 + 1) ((([⟨71, 13, (.slice (some ⟨p1, 0, none⟩) K1.length K1.length), K1.length, K1.flatMap cN⟩] ++ K1.flatMap nrows) ++ [⟨74, 2, (.slice (some ⟨p2, 0, none⟩) K2.length K2.length), K2.length, K2.flatMap cSt⟩]) ++ ([⟨82, 9, (.slice (some ⟨p3, 0, none⟩) K3.length K3.length), K3.length, K3.flatMap cM⟩] ++ K3.flatMap mrows))) := ((unhide FF2).below hb3).app (unhide N3) (unhide l3) (fun r hr i hi => by have h := ((unhide FF2).lt r hr i hi).2; simp only [World.size_setCell] at h; rw [unhide HP3]; exact h)
 clear ho3 fo3 hs3 hb3 B2 A2 X2 O2 FF2 o2 of2 a2
 have o3 := (unhide O3).S
 have of3 := (unhide O3).F
 have a3 := (unhide A3).S
 have O3 : Hid (BF (w.heap.size + 1 + 1) #[.slice (some ⟨p1, 0, none⟩) K1.length K1.length, .slice (some ⟨p2, 0, none⟩) K2.length K2.length, .slice (some ⟨p3, 0, none⟩) K3.length K3.length, .slice none 0 0] _) := (unhide O3).set 2 (by simp) (.slice (some ⟨p3, 0, none⟩) K3.length K3.length)
 replace A3 := hide ((unhide A3).far ⟨w.heap.size + 1 + 1, 2, none⟩ (.slice (some ⟨p3, 0, none⟩) K3.length K3.length) ne1)
 replace X3 := hide ((unhide X3).far ⟨w.heap.size + 1 + 1, 2, none⟩ (.slice (some ⟨p3, 0, none⟩) K3.length K3.length) ne2)
 replace B3 := hide ((unhide B3).setCell (p := ⟨w.heap.size + 1 + 1, 2, none⟩) lo1 (.slice (some ⟨p3, 0, none⟩) K3.length K3.length))
 replace FF3 := hide ((unhide FF3).setC (a := ⟨w.heap.size + 1 + 1, 2, none⟩) (Nat.lt_succ_self _) (.slice (some ⟨p3, 0, none⟩) K3.length K3.length))
 go_wp2_with fail
 refine (copyStrN ad cd nd c.done HND (unhide F4') _ ((unhide HD).below (unhide B3))).mono ?_
 rintro e w4 ⟨g4, rfl, ho4, hb4⟩
 simp only [World.size_setCell] at ho4
 have B4 := hide ((unhide B3).trans (hb4.mono (unhide B3).size))
 have A4 := hide ((unhide A3).below hb4)
 have X4 := hide ((unhide X3).below hb4)
 have O4 := hide ((unhide O3).below hb4)
 have l4 : Hid (w.heap.size + 1 + 1 + 1 ≤ w3.heap.size) := by show _ ≤ _; have := (unhide O3).lt; simp only [World.size_setCell] at this; exact this
 have N4 : Hid (FOwn w4 w3.heap.size [⟨9, 1, (.slice (some ⟨g4, 0, none⟩) nd nd), nd, cS c.done⟩]) := FOwn.one (r := ⟨_, _, (.slice (some ⟨g4, 0, none⟩) nd nd), _, _⟩) ho4
 have FF4 : Hid (FOwn w4 (w.heap.size + 1 + 1 + 1) (((([⟨71, 13, (.slice (some ⟨p1, 0, none⟩) K1.length K1.length), K1.length, K1.flatMap cN⟩] ++ K1.flatMap nrows) ++ [⟨74, 2, (.slice (some ⟨p2, 0, none⟩) K2.length K2.length), K2.length, K2.flatMap cSt⟩]) ++ ([⟨82, 9, (.slice (some ⟨p3, 0, none⟩) K3.length K3.length), K3.length, K3.flatMap cM⟩] ++ K3.flatMap mrows)) ++ [⟨9, 1, (.slice (some ⟨g4, 0, none⟩) nd nd), nd, cS c.done⟩])) := ((unhide FF3).below hb4).app (unhide N4) (unhide l4) (fun r hr i hi => by have h := ((unhide FF3).lt r hr i hi).2; simp only [World.size_setCell] at h; exact h)
 clear ho4 hb4 B3 A3 X3 O3 FF3 o3 of3 a3
 have o4 := (unhide O4).S
 have of4 := (unhide O4).F
 have a4 := (unhide A4).S
 have x4 := (unhide X4).S
 have xf4 := (unhide X4).F
 go_wp2_with fail
 refine bodyPost_ret (v := .agg #[.slice (some ⟨p1, 0, none⟩) K1.length K1.length, .slice (some ⟨p2, 0, none⟩) K2.length K2.length, .slice (some ⟨p3, 0, none⟩) K3.length K3.length, .slice (some ⟨g4, 0, none⟩) nd nd]) (by simp [results, Tryz.results6, go_sem, *]) rfl ⟨_, _, _, _, ⟨K1, K2, K3, c.done⟩, rfl, ⟨hm1.symm, hm2.symm, hm3.symm, rfl⟩, ?_, ?_⟩
 ·refine FOwn.low (lo := w.heap.size + 1 + 1 + 1) ?_ (by omega)
  have q1 : w.heap.size + 1 + 1 < w.heap.size + 1 + 1 + 1 := by omega
  have q2 : w.heap.size + 1 < w.heap.size + 1 + 1 + 1 := by omega
  unfold Clu.rows
  rw [show (Clu.mk K1 K2 K3 c.done).done.length = nd from unhide HND]
  repeat refine FOwn.setC ?_ (by first | exact q1 | exact q2) _
  exact unhide FF4
 ·repeat refine Below.setCell ?_ (by first | exact lo1 | exact lo2) _
  exact unhide B4
set_option maxHeartbeats 4000000 in
set_option maxRecDepth 100000 in
theorem eqClu (nv sv wv dv nv' sv' wv' dv' : Value) (c c' : Clu) (HF : Hid (c.fits 1048576)) (HS : Hid (c.same c')) (w : World) (h : CluR w nv sv wv dv c) (h' : CluR w nv' sv' wv' dv' c') :
  Calls Tryz.prog 9 #[.agg #[nv, sv, wv, dv], .agg #[nv', sv', wv', dv']] w fun e w' => e = .returned (.bool true) ∧ Below w.heap.size w w' := by
 have HR := hide h
 have HR' := hide h'
 obtain ⟨⟨f1, f2, f3, f4⟩, g1, g2, g3, g4⟩ := unhide HF
 obtain ⟨s1, s2, s3, s4⟩ := unhide HS
 have F1 := hide f1
 have F2 := hide f2
 have F3 := hide f3
 have F4 := hide f4
 have G1 := hide g1
 have G3 : Hid (∀ p ∈ c.wire, p.1.es.length ≤ 1048576) := fun p hp => (g3 p hp).1
 have S1 := hide s1
 have S2 := hide s2
 have S3 := hide s3
 have l1 : Hid (c'.nds.length = c.nds.length) := by show _ = _; have e := congrArg List.length s1; simpa using e.symm
 have l2 : Hid (c'.sts.length = c.sts.length) := by show _ = _; rw [s2]
 have l3 : Hid (c'.wire.length = c.wire.length) := by show _ = _; have e := congrArg List.length s3; simpa using e.symm
 obtain ⟨ad, cd, rfl, hd⟩ := h.d
 obtain ⟨bd, cd', rfl, hd'⟩ := h'.d
 rw [← s4] at hd' ⊢
 have HD := hide hd
 have HD' := hide hd'
 clear h h' hd hd' f1 f2 f3 f4 g1 g2 g3 g4 s1 s2 s3 s4
 obtain ⟨nd, hnd⟩ : ∃ nd, c.done.length = nd := ⟨_, rfl⟩
 have HND : Hid (c.done.length = nd) := hnd
 have F4' : Hid (nd ≤ 1048576) := by show _ ≤ _; rw [← hnd]; exact unhide F4
 rw [hnd]
 clear hnd
 have B0 := hide (Go.Joins.below_alloc2 w (.cells #[nv, sv, wv, .slice ad nd cd] 35) (.cells #[nv', sv', wv', .slice bd nd cd'] 35))
 have A0 := hide ((BF.new w #[nv, sv, wv, .slice ad nd cd] 35).alloc (.cells #[nv', sv', wv', .slice bd nd cd'] 35))
 have C0 := hide (BF.new (w.alloc (.cells #[nv, sv, wv, .slice ad nd cd] 35)) #[nv', sv', wv', .slice bd nd cd'] 35)
 simp only [World.size_alloc] at C0
 go_enter Tryz.func9, Tryz.ntmps9
 go_wp2_with fail
 refine (eqNodes _ _ _ (unhide F1) c.nds c'.nds (hide rfl) l1 S1 G1 _ ((unhide HR).below (unhide B0)).n ((unhide HR').below (unhide B0)).n).mono ?_
 rintro e w1 ⟨rfl, hb1⟩
 have B1 := hide ((unhide B0).trans (hb1.mono (unhide B0).size))
 have A1 := hide ((unhide A0).below hb1)
 have C1 := hide ((unhide C0).below hb1)
 clear hb1 B0 A0 C0
 have ka1 := (unhide A1).S
 have kc1 := (unhide C1).S
 go_wp2_with fail
 refine (eqStores _ _ _ (unhide F2) c.sts c'.sts (hide rfl) l2 S2 _ ((unhide HR).below (unhide B1)).s ((unhide HR').below (unhide B1)).s).mono ?_
 rintro e w2 ⟨rfl, hb2⟩
 have B2 := hide ((unhide B1).trans (hb2.mono (unhide B1).size))
 have A2 := hide ((unhide A1).below hb2)
 have C2 := hide ((unhide C1).below hb2)
 clear hb2 B1 A1 C1 ka1 kc1
 have ka2 := (unhide A2).S
 have kc2 := (unhide C2).S
 go_wp2_with fail
 refine (eqMsgs _ _ _ (unhide F3) c.wire c'.wire (hide rfl) l3 S3 G3 _ ((unhide HR).below (unhide B2)).t ((unhide HR').below (unhide B2)).t).mono ?_
 rintro e w3 ⟨rfl, hb3⟩
 have B3 := hide ((unhide B2).trans (hb3.mono (unhide B2).size))
 have A3 := hide ((unhide A2).below hb3)
 have C3 := hide ((unhide C2).below hb3)
 clear hb3 B2 A2 C2 ka2 kc2
 have ka3 := (unhide A3).S
 have kc3 := (unhide C3).S
 go_wp2_with fail
 refine (sameStrN ad bd cd cd' nd c.done HND (unhide F4') _ ((unhide HD).below (unhide B3)) ((unhide HD').below (unhide B3))).mono ?_
 rintro e w4 ⟨rfl, hb4⟩
 have B4 := hide ((unhide B3).trans (hb4.mono (unhide B3).size))
 have A4 := hide ((unhide A3).below hb4)
 have C4 := hide ((unhide C3).below hb4)
 clear hb4 B3 A3 C3 ka3 kc3
 have ka4 := (unhide A4).S
 have kc4 := (unhide C4).S
 go_wp2_with fail
 go_ret
 exact ⟨rfl, unhide B4⟩
end Go.Proofs.YtfogppnijdjakaaGreatDoor
