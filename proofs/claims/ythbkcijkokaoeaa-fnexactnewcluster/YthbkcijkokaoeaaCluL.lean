/- Clusters in the laws' own words: sizes, copies, two that are alike. -/
import Derived.Test.YthbkcijkokaoeaaCluN
import Derived.Test.YthbkcijkokaoeaaCluT
import Derived.Test.YthbkcijkokaoeaaMsE
import Derived.Test.YthbkcijkokaoeaaLstN
import Derived.Test.YthbkcijkokaoeaaBf
namespace Go.Proofs.Ythbkcijkokaoeaa
open Go.ChangeShapes Go.WideShapes Go.ChangeAt Go.RowKit
set_option linter.unusedVariables false
/-- A cluster: its nodes, stores, messages and data, and where they lie. -/
structure Clu where
  nds : List NdA
  sts : List StA
  wire : List MgA
  done : List ByteArray
def Clu.fits (M : Nat) (c : Clu) : Prop := (c.nds.length ≤ M ∧ c.sts.length ≤ M ∧ c.wire.length ≤ M ∧ c.done.length ≤ M) ∧ (∀ p ∈ c.nds, NdA.fits M p) ∧ (∀ p ∈ c.sts, p.1.size ≤ M) ∧ (∀ p ∈ c.wire, Mg.fits M p.1) ∧ ∀ k (h : k < c.done.length), c.done[k].size ≤ M
/-- Two with the same in them. -/
def Clu.same (c d : Clu) : Prop := c.nds.map (·.n) = d.nds.map (·.n) ∧ c.sts = d.sts ∧ c.wire.map (·.1) = d.wire.map (·.1) ∧ c.done = d.done
structure CluR (w : World) (nv sv wv dv : Value) (c : Clu) : Prop where
  n : RRow cN nrows w nv c.nds
  s : RRow cSt norows w sv c.sts
  t : MRow w wv c.wire
  d : ∃ a cap, dv = .slice a c.done.length cap ∧ RowV w a (cS c.done)
theorem MRow.below' {w w' : World} {v : Value} {L : List MgA} (h : MRow w v L) (hb : Below w.heap.size w w') : MRow w' v L := MRow.of (h.to.below hb)
theorem CluR.below {w w' : World} {nv sv wv dv : Value} {c : Clu} (h : CluR w nv sv wv dv c) (hb : Below w.heap.size w w') : CluR w' nv sv wv dv c := by
  obtain ⟨h1, h2, h3, a, cap, e, h4⟩ := h
  exact ⟨h1.below hb, h2.below hb, h3.below' hb, a, cap, e, h4.below hb⟩
/-- The rows of a cluster, all apart. -/
def Clu.rows (nv sv wv dv : Value) (c : Clu) : List RD :=
  ((([⟨38, 13, nv, c.nds.length, c.nds.flatMap cN⟩] ++ c.nds.flatMap nrows) ++ [⟨53, 2, sv, c.sts.length, c.sts.flatMap cSt⟩]) ++ ([⟨58, 9, wv, c.wire.length, c.wire.flatMap cM⟩] ++ c.wire.flatMap mrows)) ++ [⟨9, 1, dv, c.done.length, cS c.done⟩]
theorem CluR.of_own {w : World} {lo : Nat} {nv sv wv dv : Value} {c : Clu} (h : FOwn w lo (c.rows nv sv wv dv)) : CluR w nv sv wv dv c := by
  unfold Clu.rows at h
  have h1 := h.left.left.left
  have h2 := h.left.left.right
  have h3 := h.left.right
  have h4 := h.right
  refine ⟨RRow.of_own (h1.left.own _ (List.mem_singleton.2 rfl)) h1.right, ?_, MRow.of (RRow.of_own (h3.left.own _ (List.mem_singleton.2 rfl)) h3.right), ?_⟩
  · exact RRow.of_own (rows := norows) (h2.own _ (List.mem_singleton.2 rfl)) (by rw [norows_nil]; exact FOwn.nil _ lo)
  · obtain ⟨a, cap, e, hr⟩ := RD.read_own (h4.own _ (List.mem_singleton.2 rfl))
    exact ⟨a, cap, e, hr⟩
set_option maxHeartbeats 4000000 in
set_option maxRecDepth 100000 in
theorem eqClu (nv sv wv dv nv' sv' wv' dv' : Value) (c c' : Clu) (HF : Hid (c.fits 1048576)) (HS : Hid (c.same c')) (w : World) (h : CluR w nv sv wv dv c) (h' : CluR w nv' sv' wv' dv' c') :
    Calls Try.prog 6 #[.agg #[nv, sv, wv, dv], .agg #[nv', sv', wv', dv']] w fun e w' => e = .returned (.bool true) ∧ Below w.heap.size w w' := by
  have HR := hide h
  have HR' := hide h'
  obtain ⟨⟨f1, f2, f3, f4⟩, g1, g2, g3, g4⟩ := unhide HF
  obtain ⟨s1, s2, s3, s4⟩ := unhide HS
  have F1 := hide f1
  have F2 := hide f2
  have F3 := hide f3
  have F4 := hide f4
  have G1 := hide g1
  have G3 : Hid (∀ p ∈ c.wire, p.1.es.length ≤ 1048576) := fun p hp => (g3 p hp).1
  have S1 := hide s1
  have S2 := hide s2
  have S3 := hide s3
  have l1 : Hid (c'.nds.length = c.nds.length) := by show _ = _; have e := congrArg List.length s1; simpa using e.symm
  have l2 : Hid (c'.sts.length = c.sts.length) := by show _ = _; rw [s2]
  have l3 : Hid (c'.wire.length = c.wire.length) := by show _ = _; have e := congrArg List.length s3; simpa using e.symm
  obtain ⟨ad, cd, rfl, hd⟩ := h.d
  obtain ⟨bd, cd', rfl, hd'⟩ := h'.d
  rw [← s4] at hd' ⊢
  have HD := hide hd
  have HD' := hide hd'
  clear h h' hd hd' f1 f2 f3 f4 g1 g2 g3 g4 s1 s2 s3 s4
  obtain ⟨nd, hnd⟩ : ∃ nd, c.done.length = nd := ⟨_, rfl⟩
  have HND : Hid (c.done.length = nd) := hnd
  have F4' : Hid (nd ≤ 1048576) := by show _ ≤ _; rw [← hnd]; exact unhide F4
  rw [hnd]
  clear hnd
  have B0 := hide (Go.Joins.below_alloc2 w (.cells #[nv, sv, wv, .slice ad nd cd] 27) (.cells #[nv', sv', wv', .slice bd nd cd'] 27))
  have A0 := hide ((BF.new w #[nv, sv, wv, .slice ad nd cd] 27).alloc (.cells #[nv', sv', wv', .slice bd nd cd'] 27))
  have C0 := hide (BF.new (w.alloc (.cells #[nv, sv, wv, .slice ad nd cd] 27)) #[nv', sv', wv', .slice bd nd cd'] 27)
  simp only [World.size_alloc] at C0
  go_enter Try.func6, Try.ntmps6
  go_wp2_with fail
  refine (eqNodes _ _ _ (unhide F1) c.nds c'.nds (hide rfl) l1 S1 G1 _ ((unhide HR).below (unhide B0)).n ((unhide HR').below (unhide B0)).n).mono ?_
  rintro e w1 ⟨rfl, hb1⟩
  have B1 := hide ((unhide B0).trans (hb1.mono (unhide B0).size))
  have A1 := hide ((unhide A0).below hb1)
  have C1 := hide ((unhide C0).below hb1)
  clear hb1 B0 A0 C0
  have ka1 := (unhide A1).S
  have kc1 := (unhide C1).S
  go_wp2_with fail
  refine (eqStores _ _ _ (unhide F2) c.sts c'.sts (hide rfl) l2 S2 _ ((unhide HR).below (unhide B1)).s ((unhide HR').below (unhide B1)).s).mono ?_
  rintro e w2 ⟨rfl, hb2⟩
  have B2 := hide ((unhide B1).trans (hb2.mono (unhide B1).size))
  have A2 := hide ((unhide A1).below hb2)
  have C2 := hide ((unhide C1).below hb2)
  clear hb2 B1 A1 C1 ka1 kc1
  have ka2 := (unhide A2).S
  have kc2 := (unhide C2).S
  go_wp2_with fail
  refine (eqMsgs _ _ _ (unhide F3) c.wire c'.wire (hide rfl) l3 S3 G3 _ ((unhide HR).below (unhide B2)).t ((unhide HR').below (unhide B2)).t).mono ?_
  rintro e w3 ⟨rfl, hb3⟩
  have B3 := hide ((unhide B2).trans (hb3.mono (unhide B2).size))
  have A3 := hide ((unhide A2).below hb3)
  have C3 := hide ((unhide C2).below hb3)
  clear hb3 B2 A2 C2 ka2 kc2
  have ka3 := (unhide A3).S
  have kc3 := (unhide C3).S
  go_wp2_with fail
  refine (sameStrN ad bd cd cd' nd c.done HND (unhide F4') _ ((unhide HD).below (unhide B3)) ((unhide HD').below (unhide B3))).mono ?_
  rintro e w4 ⟨rfl, hb4⟩
  have B4 := hide ((unhide B3).trans (hb4.mono (unhide B3).size))
  have A4 := hide ((unhide A3).below hb4)
  have C4 := hide ((unhide C3).below hb4)
  clear hb4 B3 A3 C3 ka3 kc3
  have ka4 := (unhide A4).S
  have kc4 := (unhide C4).S
  go_wp2_with fail
  go_ret
  exact ⟨rfl, unhide B4⟩
end Go.Proofs.Ythbkcijkokaoeaa
