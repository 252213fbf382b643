/- At every argument that can be read, the law FnExactNewCluster returns true and leaves its arguments as they were: no condition. -/
import Derived.Test.YthbkcijkokaoeaaNclAll
import Derived.WalkKit
import Derived.ProofKit
import Derived.OpenShut
import Derived.ShutString
import Derived.ChangeOld
import Derived.Below
namespace Go.Proofs.Ythbkcijkokaoeaa
open Go.ChangeShapes Go.WideShapes Go.ChangeAt Go.RowKit
open Go.ChangeMaps (open_string shut_string)
set_option linter.unusedVariables false

theorem own : ownKnob Try.prog.godebug = none := by kernel_rfl

set_option maxHeartbeats 4000000 in
set_option maxRecDepth 100000 in
theorem walk (a0 : Int) (w0 : (Lit.int .i64 a0).wf = true) (w : World) :
    Calls Try.prog 3 #[.int .i64 a0] w fun e w' => e = .returned (.bool true) ∧ Below w.heap.size w w' := by
  obtain ⟨n, c, his, h5⟩ := cn_ex a0
  have HIS := hide his
  have nc : (c != c) = false := by simp
  clear his
  have B0 := hide (Below.refl w.heap.size w)
  go_enter Try.func3, Try.ntmps3
  go_wp2_with fail
  refine (snewcluster a0 n c HIS _).mono ?_
  rintro e w1 ⟨⟨nv, sv, wv, dv, q, rfl, qn, qs, qw, qd, hr⟩, hb⟩
  obtain ⟨nW, knW, sW, ksW, mW, kmW, dW, kdW, rfl, rfl, rfl, rfl⟩ := hr.parts'
  have HRW := hide hr
  have QS : Hid (∀ K : List NdA, K.map (·.n) = newL n n → Clu.same ⟨K, List.replicate n zSt', [], []⟩ q) := fun K hK => ⟨hK.trans qn.symm, qs.symm, by rw [qw], qd.symm⟩
  have v1 := Go.Joins.below_alloc1 w1 (.cells #[.slice nW q.nds.length knW, .slice sW q.sts.length ksW, .slice mW q.wire.length kmW, .slice dW q.done.length kdW] 27)
  have B1 := hide (((unhide B0).trans (hb.mono (unhide B0).size)).trans (v1.mono ((unhide B0).trans (hb.mono (unhide B0).size)).size))
  have W1 := hide (BF.new w1 #[.slice nW q.nds.length knW, .slice sW q.sts.length ksW, .slice mW q.wire.length kmW, .slice dW q.done.length kdW] 27)
  have D1 := hide v1
  have B1z := hide (unhide B1).size
  have X1 : Hid (w1.heap.size < (w1.alloc (.cells #[.slice nW q.nds.length knW, .slice sW q.sts.length ksW, .slice mW q.wire.length kmW, .slice dW q.done.length kdW] 27)).heap.size) := by show _ < _; simp only [World.size_alloc]; omega
  clear hr qn qs qw qd hb v1 B0
  go_wp2_with fail
  refine (inewcluster a0 n c HIS _).mono ?_
  rintro e w2 ⟨⟨nv, sv, mG, KG, rfl, hk, hs, hf, hz1, hz2⟩, hb⟩
  obtain ⟨nG, knG, rfl, -⟩ := ownZ_rowV (show w2.ownsRow mG 38 13 nv n (KG.flatMap cN) from hf.head)
  obtain ⟨sG, ksG, rfl, -⟩ := hs.row
  have HKG := hide hk
  have v2 := Go.Joins.below_alloc1 w2 (.cells #[.slice nG n knG, .slice sG n ksG, .slice none 0 0, .slice none 0 0] 27)
  have vb := hb.trans (v2.mono hb.size)
  clear hb
  have hb := vb
  have vB := vb
  clear vb
  have S2 := hide (hs.below v2 hs.le)
  have F2 := hide (hf.below v2)
  have LG := hide hz2
  have MG := hide hz1
  have TG := hide (fun r hr j hj => (hf.lt r hr j hj).2)
  have G2 := hide (BF.new w2 #[.slice nG n knG, .slice sG n ksG, .slice none 0 0, .slice none 0 0] 27)
  clear hs hf hz1 hz2 hk
  have B2 := hide ((unhide B1).trans (hb.mono (unhide B1).size))
  have W2 := hide ((unhide W1).below hb)
  have D2 := hide ((unhide D1).trans (hb.mono (unhide D1).size))
  clear hb B1 W1 D1
  clear v2
  have RG := hide (clu_nc (unhide S2) (unhide F2) (unhide HKG))
  have kG := (unhide G2).S
  have kW := (unhide W2).S
  go_wp2_with fail
  refine (eqClu _ _ _ _ _ _ _ _ ⟨KG, List.replicate n zSt', [], []⟩ q (hide (new_fits h5 (unhide HKG))) (hide ((unhide QS) KG (unhide HKG))) _ (unhide RG) ((unhide HRW).below (unhide D2))).mono ?_
  rintro e w3 ⟨rfl, hb⟩
  clear kG kW RG
  have B3 := hide ((unhide B2).trans (hb.mono (unhide B2).size))
  have W3 := hide ((unhide W2).below hb)
  have D3 := hide ((unhide D2).trans (hb.mono (unhide D2).size))
  have G3 := hide ((unhide G2).below hb)
  have S3 := hide ((unhide S2).below hb (unhide S2).le)
  have F3 := hide ((unhide F2).below hb)
  clear hb B2 W2 D2 G2 S2 F2
  obtain ⟨k1, hk1⟩ : ∃ k, k = kAtN 1 KG n := ⟨_, rfl⟩
  obtain ⟨Q, hQ⟩ : ∃ Q : Int, Q = ((k1 + n * 2 : Nat) : Int) := ⟨_, rfl⟩
  have HK1 := hide hk1
  have HQ := hide hQ
  have hq0 : ¬ Q < 0 := by omega
  have nq : (Q != Q) = false := by simp
  clear hk1 hQ
  have kG := (unhide G3).S
  go_wp2_with fail
  have zG : w2.heap.size ≤ w3.heap.size := by have := (unhide G3).lt; omega
  refine (markNc nG sG n knG ksG _ mG h5 (unhide LG) KG HKG k1 HK1 Q HQ _ _ (unhide S3) (unhide F3) w2.heap.size (unhide TG) (unhide MG) zG).mono ?_
  rintro e w4 ⟨rfl, hs4, hf4, ho⟩
  clear kG zG
  have B4 := hide (Below.outs (unhide B3) (unhide B3).size ho (unhide B1z))
  have W4 := hide ((unhide W3).outs ho (.inl (unhide X1)))
  have D4 := hide (Below.outs (unhide D3) (unhide D3).size ho (Nat.le_of_lt (unhide X1)))
  have G4 := hide ((unhide G3).outs ho (.inr (Nat.le_refl _)))
  have S4 := hide hs4
  have F4 := hide hf4
  clear hs4 hf4 ho B3 W3 D3 G3 S3 F3
  have kG := (unhide G4).S
  go_wp2_with fail
  refine (heldNc nG sG n knG ksG _ mG h5 KG HKG k1 HK1 Q HQ _ (unhide S4) (unhide F4)).mono ?_
  rintro e w5 ⟨rfl, hb⟩
  clear kG
  have B5 := hide ((unhide B4).trans (hb.mono (unhide B4).size))
  have W5 := hide ((unhide W4).below hb)
  have D5 := hide ((unhide D4).trans (hb.mono (unhide D4).size))
  have G5 := hide ((unhide G4).below hb)
  have S5 := hide ((unhide S4).below hb (unhide S4).le)
  have F5 := hide ((unhide F4).below hb)
  clear hb B4 W4 D4 G4 S4 F4
  go_wp2_with fail
  refine (inewcluster a0 n c HIS _).mono ?_
  rintro e w6 ⟨⟨nv, sv, mH, KH, rfl, hk, hs, hf, hz1, hz2⟩, hb⟩
  obtain ⟨nH, knH, rfl, -⟩ := ownZ_rowV (show w6.ownsRow mH 38 13 nv n (KH.flatMap cN) from hf.head)
  obtain ⟨sH, ksH, rfl, -⟩ := hs.row
  have HKH := hide hk
  have v6 := Go.Joins.below_alloc1 w6 (.cells #[.slice nH n knH, .slice sH n ksH, .slice none 0 0, .slice none 0 0] 27)
  have vb := hb.trans (v6.mono hb.size)
  clear hb
  have hb := vb
  have vB := vb
  clear vb
  have S6 := hide (hs.below v6 hs.le)
  have F6 := hide (hf.below v6)
  have LH := hide hz2
  have MH := hide hz1
  have TH := hide (fun r hr j hj => (hf.lt r hr j hj).2)
  have H6 := hide (BF.new w6 #[.slice nH n knH, .slice sH n ksH, .slice none 0 0, .slice none 0 0] 27)
  clear hs hf hz1 hz2 hk
  have B6 := hide ((unhide B5).trans (hb.mono (unhide B5).size))
  have W6 := hide ((unhide W5).below hb)
  have D6 := hide ((unhide D5).trans (hb.mono (unhide D5).size))
  have G6 := hide ((unhide G5).below hb)
  clear hb B5 W5 D5 G5
  clear v6
  have S7 := hide ((unhide S5).below vB (unhide S5).le)
  have F7 := hide ((unhide F5).below vB)
  clear vB S5 F5
  have RH := hide (clu_nc (unhide S6) (unhide F6) (unhide HKH))
  have kH := (unhide H6).S
  have kW := (unhide W6).S
  go_wp2_with fail
  refine (eqClu _ _ _ _ _ _ _ _ ⟨KH, List.replicate n zSt', [], []⟩ q (hide (new_fits h5 (unhide HKH))) (hide ((unhide QS) KH (unhide HKH))) _ (unhide RH) ((unhide HRW).below (unhide D6))).mono ?_
  rintro e w7 ⟨rfl, hb⟩
  clear kH kW RH S6 F6
  have B8 := hide ((unhide B6).trans (hb.mono (unhide B6).size))
  have G8 := hide ((unhide G6).below hb)
  have S8 := hide ((unhide S7).below hb (unhide S7).le)
  have F8 := hide ((unhide F7).below hb)
  clear hb B6 G6 S7 F7
  have kG := (unhide G8).S
  go_wp2_with fail
  refine (heldNc nG sG n knG ksG _ mG h5 KG HKG k1 HK1 Q HQ _ (unhide S8) (unhide F8)).mono ?_
  rintro e w9 ⟨rfl, hb⟩
  have B9 := hide ((unhide B8).trans (hb.mono (unhide B8).size))
  clear kG hb B8 G8 S8 F8
  go_wp2_with fail
  go_ret
  exact ⟨rfl, unhide B9⟩

set_option maxRecDepth 100000 in
theorem lifted (os : Os) (started : os.Started) (H : Type) (enc : TypeId × Value → H) :
    ReturnsInHanded {} Try.checked os 3 .any (Rows.fnExactNewClusterSpec.pre6 enc Try.prog Try.f3 Rows.fnExactNewClusterRow.domain false) (Rows.fnExactNewClusterSpec.post enc Try.prog Try.f3 false true false false) := by
  refine returnsInHanded_of_change (C := Try.checked) own started (by kernel_rfl) Try.func3
    (ChangeSpec.witness6 (enc := enc) (C := Try.checked) false ⟨#[], #[.int .i64 0], []⟩ 8 (by kernel_rfl) (by kernel_rfl) (by kernel_rfl) (by kernel_rfl)) ?_
  intro W base args ds gs before hval0 hW hcnd _
  have hval : ∀ (j : Nat) t v, Try.f3.params[j]? = some t → args[j]? = some v → Value.okWide Try.prog W .any base t v := hval0
  have hW' := hW
  obtain ⟨p, q, hA0, hV, rfl, hfz, hnd⟩ := hW
  have hA : DataW.TrodAll enc Try.prog W 0 (fun _ => true) true Try.f3.params.toList args.toList ds p := hA0
  rw [Try.params3] at hA hval
  obtain ⟨v0, vs0, d0, ds0, p0, q0, hargs, rfl, rfl, h0, r0⟩ := trodAll_cons hA
  obtain ⟨rfl, rfl, rfl⟩ := trodAll_nil r0
  obtain rfl : args = #[v0] := by cases args; simp_all
  obtain ⟨rfl, rfl⟩ := trodVars_none hV
  obtain ⟨a0, rfl, rfl, rfl, w0⟩ := open_int Try.underlying3 (hval 0 3 v0 rfl rfl) h0
  clear hA0 hval0
  simp only [List.append_nil] at hW'
  refine (walk a0 w0 W).mono fun e W' ⟨he, hg⟩ => ?_
  subst he
  exact ⟨_, rfl, _, _, _, [], _, [], hW', (trodAll_cons_mk (shut_bool Try.underlying4 _) trodAll_mk0), (trodAll_cons_mk (shut_int Try.underlying3 w0) trodAll_mk0), rfl, hg.frame _, fun h => by cases h⟩

theorem over : Rows.fnExactNewClusterRow.holds Try.pinned (OpenSpec.ofChange Rows.fnExactNewClusterSpec) :=
  OpenClaim.holds_of_wide 3 Try.f3 rfl rfl rfl rfl rfl rfl rfl ⟨rfl, rfl, rfl, rfl, rfl⟩ rfl rfl rfl rfl rfl (by kernel_rfl) Try.func3 (by kernel_rfl)
    (of_decide_eq_true (by kernel_rfl)) (by unfold Func.isWrapper; first | (rw [if_pos (by decide +kernel)]; kernel_rfl) | (rw [if_neg (by decide +kernel)]; exact ⟨rfl, rfl⟩))
    (fun os started H enc _ => lifted os started H enc)

theorem proved : Rows.FnExactNewClusterSaid :=
  over
#print axioms proved
end Go.Proofs.Ythbkcijkokaoeaa
