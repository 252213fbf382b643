/- At every argument that can be read, the law FnExactViewOK returns true and leaves its arguments as they were: no condition. -/
import Derived.Test.YtbigcpncehihgaaVoAll
import Derived.Test.YtbigcpncehihgaaAgg6
import Derived.Test.YtbigcpncehihgaaEntO
import Derived.WalkKit
import Derived.ProofKit
import Derived.OpenShut
import Derived.ShutString
import Derived.ChangeOld
import Derived.Below
import Derived.Deep.Strs
import Derived.ChangeMaps5
namespace Go.Proofs.Ytbigcpncehihgaa
open Go.ChangeShapes Go.WideShapes Go.ChangeAt Go.RowKit
open Go.ChangeMaps (open_string shut_string)
set_option linter.unusedVariables false

theorem own : ownKnob Try.prog.godebug = none := by kernel_rfl
theorem laidOut : laidOutB Try.prog = true := by kernel_rfl
set_option maxHeartbeats 4000000 in
set_option maxRecDepth 100000 in
theorem walk (w : World) (nb fr vw vh : Int) (fu : Bool) (a : Option Addr) (n cap : Nat) (l : List (Int × ByteArray)) (ql : l.length = n) (ml : n ≤ maxLen) (sl : ∀ k (h : k < l.length), l[k].2.size ≤ maxLen) (rl : RowV w a (cE l)) :
    Calls Try.prog 3 #[.agg #[.int .i64 nb, .int .i64 fr, .bool fu, .int .i64 vw, .int .i64 vh, .slice a n cap]] w fun e w' => e = .returned (.bool true) ∧ Below w.heap.size w w' := by
  obtain ⟨R, hR⟩ : ∃ R, R = vwB nb fr fu vw vh l := ⟨_, rfl⟩
  have HRR := hide hR
  have nR : (R != R) = false := by simp
  clear hR
  have HN := hide ql
  clear ql
  have HM := hide ml
  clear ml
  have HR := hide rl
  clear rl
  have HS := hide sl
  clear sl
  have B_1 := hide (Go.Joins.below_alloc1 w (.cells #[.int .i64 nb, .int .i64 fr, .bool fu, .int .i64 vw, .int .i64 vh, .slice a n cap] 24))
  have A_2 := hide (BF.new w #[.int .i64 nb, .int .i64 fr, .bool fu, .int .i64 vw, .int .i64 vh, .slice a n cap] 24)
  go_enter Try.func3, Try.ntmps3
  have kA := (unhide A_2).S
  go_wp2_with fail
  refine (szVw nb fr vw vh fu a cap n l HN 1048576 (Nat.le_refl _) HM HS _ ((unhide HR).below (unhide B_1))).mono ?_
  rintro e w1 ⟨x, rfl, hb1, hx⟩
  clear kA
  have B_3 := hide ((unhide B_1).trans (hb1.mono (unhide B_1).size))
  clear B_1
  have A_4 := hide ((unhide A_2).below hb1)
  clear A_2
  clear hb1
  rcases hx with rfl | ⟨z, rfl, hz, hl, hs⟩
  · go_wp2_with fail
    go_ret
    exact ⟨rfl, (unhide B_3)⟩
  have hzn : ¬ (z : Int) < 0 := by omega
  have HSZ := hide hs
  have HL := hide hl
  have HY := hide hz
  clear hs HM HS hl hz
  have kA := (unhide A_4).S
  go_wp2_with fail
  refine (toVw nb fr vw vh fu a cap n l HN (unhide HL) _ ((unhide HR).below (unhide B_3))).mono ?_
  rintro e w2 ⟨g2, rfl, o2, hb2⟩
  clear kA
  have B_5 := hide ((unhide B_3).trans (hb2.mono (unhide B_3).size))
  clear B_3
  have A_6 := hide ((unhide A_4).below hb2)
  clear A_4
  clear hb2
  have S_7 := hide (heldZ_of o2)
  clear o2
  try simp only [World.size_alloc] at S_7
  go_wp2_with fail
  refine (svwok nb fr fu vw vh _ _ n l HN (unhide HL) HSZ R HRR _ (unhide S_7).rowV).mono ?_
  rintro e w3 ⟨rfl, hb3⟩
  have B_8 := hide ((unhide B_5).trans (hb3.mono (unhide B_5).size))
  clear B_5
  have A_9 := hide ((unhide A_6).below hb3)
  clear A_6
  have S_10 := hide ((unhide S_7).below hb3 (unhide S_7).le)
  clear S_7
  clear hb3
  clear S_10
  have kA := (unhide A_9).S
  go_wp2_with fail
  refine (toVw nb fr vw vh fu a cap n l HN (unhide HL) _ ((unhide HR).below (unhide B_8))).mono ?_
  rintro e w4 ⟨g4, rfl, o4, hb4⟩
  clear kA
  have B_11 := hide ((unhide B_8).trans (hb4.mono (unhide B_8).size))
  clear B_8
  have A_12 := hide ((unhide A_9).below hb4)
  clear A_9
  clear hb4
  have XR_13 := hide (heldZ_of o4)
  clear o4
  try simp only [World.size_alloc] at XR_13
  have B_14 := hide ((unhide B_11).alloc (unhide B_11).size (.cells #[.int .i64 nb, .int .i64 fr, .bool fu, .int .i64 vw, .int .i64 vh, .slice (some ⟨g4, 0, none⟩) n n] 29))
  clear B_11
  have A_15 := hide ((unhide A_12).alloc (.cells #[.int .i64 nb, .int .i64 fr, .bool fu, .int .i64 vw, .int .i64 vh, .slice (some ⟨g4, 0, none⟩) n n] 29))
  clear A_12
  have XR_16 := hide ((unhide XR_13).below (Go.Joins.below_alloc1 _ (.cells #[.int .i64 nb, .int .i64 fr, .bool fu, .int .i64 vw, .int .i64 vh, .slice (some ⟨g4, 0, none⟩) n n] 29)) (unhide XR_13).le)
  clear XR_13
  have X_17 := hide (BF.new w4 #[.int .i64 nb, .int .i64 fr, .bool fu, .int .i64 vw, .int .i64 vh, .slice (some ⟨g4, 0, none⟩) n n] 29)
  have kX := (unhide X_17).S
  go_wp2_with fail
  refine (ivwok nb fr fu vw vh _ _ n l HN (unhide HL) HSZ R HRR _ (unhide XR_16).rowV).mono ?_
  rintro e w5 ⟨rfl, hb5⟩
  clear kX
  have B_18 := hide ((unhide B_14).trans (hb5.mono (unhide B_14).size))
  clear B_14
  have A_19 := hide ((unhide A_15).below hb5)
  clear A_15
  have XR_20 := hide ((unhide XR_16).below hb5 (unhide XR_16).le)
  clear XR_16
  have X_21 := hide ((unhide X_17).below hb5)
  clear X_17
  clear hb5
  have K6 := And.intro (unhide A_19).S (unhide X_21).S
  have HU6 := hide (unhide XR_20).rowV
  have LA : w.heap.size < _ := (unhide A_19).lt
  have LX : w4.heap.size < _ := (unhide X_21).lt
  go_wp2_with fail
  go_region_held3 (fun w' => (∀ o, w'.cell? ⟨w.heap.size, o, none⟩ = (#[.int .i64 nb, .int .i64 fr, .bool fu, .int .i64 vw, .int .i64 vh, .slice a n cap] : Array Value)[o]?) ∧ (∀ o, w'.cell? ⟨w4.heap.size, o, none⟩ = (#[.int .i64 nb, .int .i64 fr, .bool fu, .int .i64 vw, .int .i64 vh, .slice (some ⟨g4, 0, none⟩) n n] : Array Value)[o]?)) (first | exact K6 | exact K7 | exact K8) (first | (go_at_call 6; refine (toVw nb fr vw vh fu a cap n l HN (unhide HL) _ ((unhide HR).below (unhide B_18).drew)).mono ?_; rintro e w7 ⟨g7, rfl, o7, hb7⟩; have K7 := And.intro (fun o => (hb7.cell (p := ⟨w.heap.size, o, none⟩) LA).trans (K6.1 o)) (fun o => (hb7.cell (p := ⟨w4.heap.size, o, none⟩) LX).trans (K6.2 o)); have HO7 := hide (rowZ_at o7); have HU7 := hide ((unhide HU6).below (below_undrew hb7)); have HT7 := hide (below_undrew hb7); have LA7 := Nat.lt_of_lt_of_le LA (unhide HT7).size; have LX7 := Nat.lt_of_lt_of_le LX (unhide HT7).size; clear o7 hb7) | (go_at_call 8; refine (eqVw nb fr vw vh fu _ _ _ _ n l HN (unhide HL) _ (unhide HU7) (unhide HO7)).mono ?_; rintro e w8 ⟨rfl, hb8⟩; have K8 := And.intro (fun o => (hb8.cell (p := ⟨w.heap.size, o, none⟩) LA7).trans (K7.1 o)) (fun o => (hb8.cell (p := ⟨w4.heap.size, o, none⟩) LX7).trans (K7.2 o)); have HT8 := hide ((unhide HT7).trans (hb8.mono (unhide HT7).size)); clear hb8))
  clear K6 K7 K8 HO7 HU6 HU7 HT7 LA LX LA7 LX7
  have B_22 := hide ((unhide B_18).trans ((unhide HT8).mono (unhide B_18).size))
  clear B_18
  have A_23 := hide ((unhide A_19).below (unhide HT8))
  clear A_19
  have XR_24 := hide ((unhide XR_20).below (unhide HT8) (unhide XR_20).le)
  clear XR_20
  have X_25 := hide ((unhide X_21).below (unhide HT8))
  clear X_21
  clear HT8
  go_wp2_with fail
  go_ret
  exact ⟨rfl, (unhide B_22)⟩

set_option maxRecDepth 100000 in
theorem lifted (os : Os) (started : os.Started) (H : Type) (enc : TypeId × Value → H) :
    ReturnsInHanded {} Try.checked os 3 .any (Rows.fnExactViewOKSpec.pre6 enc Try.prog Try.f3 Rows.fnExactViewOKRow.domain false) (Rows.fnExactViewOKSpec.post enc Try.prog Try.f3 false true false false) := by
  refine returnsInHanded_of_change (C := Try.checked) own started (by kernel_rfl) Try.func3
    (ChangeSpec.witness6 (enc := enc) (C := Try.checked) false ⟨#[], #[.agg #[.int .i64 0, .int .i64 0, .bool false, .int .i64 0, .int .i64 0, .slice none 0 0]], []⟩ 8 (by kernel_rfl) (by kernel_rfl) (by kernel_rfl) (by kernel_rfl)) ?_
  intro W base args ds gs before hval0 hW hcnd _
  have hval : ∀ (j : Nat) t v, Try.f3.params[j]? = some t → args[j]? = some v → Value.okWide Try.prog W .any base t v := hval0
  have hW' := hW
  obtain ⟨p, q, hA0, hV, rfl, hfz, hnd⟩ := hW
  have hA : DataW.TrodAll enc Try.prog W 0 (fun _ => true) true Try.f3.params.toList args.toList ds p := hA0
  rw [Try.params3] at hA hval
  obtain ⟨v0, vs0, d_0, ds0, p0, q0, hargs, rfl, rfl, h0, r0⟩ := trodAll_cons hA
  obtain ⟨rfl, rfl, rfl⟩ := trodAll_nil r0
  obtain rfl : args = #[v0] := by cases args; simp_all
  obtain ⟨rfl, rfl⟩ := trodVars_none hV
  have k0 := h0
  have lt0 : ∀ x ∈ p0, x.block < W.heap.size := by obtain ⟨m, hm⟩ := k0; exact DataW.trod_lt m _ _ _ hm
  obtain ⟨c0_0, c0_1, c0_2, c0_3, c0_4, c0_5, u0_0, u0_1, u0_2, u0_3, u0_4, u0_5, n0_, rfl, z0_0, z0_1, z0_2, z0_3, z0_4, z0_5⟩ := open_agg6 Try.underlying24 (by kernel_rfl) (by kernel_rfl) (hval 0 24 v0 rfl rfl) h0
  obtain ⟨nb, e0_0, -, -⟩ := DataW.trod_int Try.underlying3 z0_0
  obtain rfl : c0_0 = .int .i64 nb := by simpa using e0_0
  obtain ⟨fr, e0_1, -, -⟩ := DataW.trod_int Try.underlying3 z0_1
  obtain rfl : c0_1 = .int .i64 fr := by simpa using e0_1
  obtain ⟨fu, e0_2, -⟩ := DataW.trod_bool Try.underlying4 z0_2
  obtain rfl : c0_2 = .bool fu := by simpa using e0_2
  obtain ⟨vw, e0_3, -, -⟩ := DataW.trod_int Try.underlying3 z0_3
  obtain rfl : c0_3 = .int .i64 vw := by simpa using e0_3
  obtain ⟨vh, e0_4, -, -⟩ := DataW.trod_int Try.underlying3 z0_4
  obtain rfl : c0_4 = .int .i64 vh := by simpa using e0_4
  obtain ⟨a, n, cap, l, rfl, el_, ml_, sl_, rl_⟩ := entries_field Try.underlying22 Try.underlying51 (by kernel_rfl) rfl rfl (by kernel_rfl) (by kernel_rfl) Try.underlying3 Try.underlying9 z0_5
  clear hA0 hval0
  refine (walk W nb fr vw vh fu a n cap l el_ ml_ sl_ rl_).mono fun e W' ⟨he, bel⟩ => ?_
  subst he
  exact ⟨_, rfl, _, _, _, [], _, [], hW', trodAll_mk1 (shut_bool Try.underlying4 _), (trodAll_cons_mk (Below.trod laidOut (by kernel_rfl) (of_decide_eq_true (by kernel_rfl)) k0 bel lt0) trodAll_mk0), rfl, bel.frame _, fun h => by cases h⟩

theorem over : Rows.fnExactViewOKRow.holds Try.pinned (OpenSpec.ofChange Rows.fnExactViewOKSpec) :=
  OpenClaim.holds_of_wide 3 Try.f3 rfl rfl rfl rfl rfl rfl rfl ⟨rfl, rfl, rfl, rfl, rfl⟩ rfl rfl rfl rfl rfl (by kernel_rfl) Try.func3 (by kernel_rfl)
    (of_decide_eq_true (by kernel_rfl)) (by unfold Func.isWrapper; first | (rw [if_pos (by decide +kernel)]; kernel_rfl) | (rw [if_neg (by decide +kernel)]; exact ⟨rfl, rfl⟩))
    (fun os started H enc _ => lifted os started H enc)

theorem proved : Rows.FnExactViewOKSaid := over
#print axioms proved
end Go.Proofs.Ytbigcpncehihgaa
