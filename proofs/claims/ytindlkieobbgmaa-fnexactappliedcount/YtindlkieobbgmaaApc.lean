/- At every argument that can be read, the law FnExactAppliedCount returns true and leaves its arguments as they were: no condition. -/
import Derived.Test.YtindlkieobbgmaaAcAll
import Derived.WalkKit
import Derived.ProofKit
import Derived.OpenShut
import Derived.ShutString
import Derived.ChangeOld
import Derived.Below
import Derived.Deep.Strs
namespace Go.Proofs.Ytindlkieobbgmaa
open Go.ChangeShapes Go.WideShapes Go.ChangeAt Go.RowKit
set_option linter.unusedVariables false

theorem own : ownKnob Try.prog.godebug = none := by kernel_rfl
theorem laidOut : laidOutB Try.prog = true := by kernel_rfl
theorem rowS_of {w : World} {x : Addr} {len m : Nat} (Sx : Nat → ByteArray) (hl : len ≤ m) (hcell : ∀ i, i < m → w.cell? (x.add i) = some (.string (Sx i)) ∧ (Sx i).size ≤ maxLen) :
    ∃ l : List ByteArray, l.length = len ∧ (∀ k (h : k < l.length), l[k].size ≤ maxLen) ∧ RowV w (some x) (cS l) := by
  refine ⟨(List.range len).map Sx, by simp, fun k h => ?_, ?_⟩
  · have : k < len := by simpa using h
    rw [List.getElem_map, List.getElem_range]; exact (hcell k (by omega)).2
  · by_cases h0 : len = 0
    · left; simp [h0, cS]
    · right
      obtain ⟨b, off, spot⟩ := x
      have hc := (hcell 0 (by omega)).1
      have hspot : spot = none := by simpa [Addr.add] using World.cell?_spot hc
      subst hspot
      refine ⟨b, off, rfl, World.block_lt_of_cell? w _ hc, fun i u hu => ?_⟩
      have hi : i < ((List.range len).map Sx).length := by have := (List.getElem?_eq_some_iff.1 hu).1; rwa [cS_len] at this
      have hi' : i < len := by simpa using hi
      have hci := (hcell i (by omega)).1
      rw [show (⟨b, off, none⟩ : Addr).add i = ⟨b, off + i, none⟩ from by unfold Addr.add; split <;> simp_all] at hci
      rw [hci, ← hu, cS_at _ i hi, List.getElem_map, List.getElem_range]

theorem walk (a0 : Option Addr) (len0 cap0 : Nat) (l : List ByteArray) (e0 : l.length = len0) (hlen : l.length ≤ maxLen) (hsz : ∀ k (h : k < l.length), l[k].size ≤ maxLen) (w : World) (hr : RowV w a0 (cS l)) :
    Calls Try.prog 3 #[.slice a0 len0 cap0] w fun e w' => e = .returned (.bool true) ∧ Below w.heap.size w w' := by
  subst e0
  have HR := hide hr
  clear hr
  obtain ⟨x0, hx0⟩ : ∃ c, c = acN l := ⟨_, rfl⟩
  have HX0 := hide hx0
  have nx0 : (x0 != x0) = false := by simp
  clear hx0
  obtain ⟨c0, hc0⟩ : ∃ c, c = acC l := ⟨_, rfl⟩
  have HC0 := hide hc0
  have nc0 : (c0 != c0) = false := by simp
  clear hc0
  go_enter Try.func3, Try.ntmps3
  go_wp2_with fail
  refine (size6 a0 cap0 l hlen hsz _ (unhide HR)).mono ?_
  rintro e w1 ⟨x, rfl, rfl, hx⟩
  rcases hx with rfl | ⟨hx0, hs, hz⟩
  · go_wp2_with fail
    go_ret
    exact ⟨rfl, Below.refl _ _⟩
  rename_i w
  have HS := hide hs
  clear hz hs hlen hsz
  go_wp2_with fail
  refine (copyString a0 cap0 l (unhide HS) _ (unhide HR)).mono ?_
  rintro e w1 ⟨rfl, own1, hb1⟩
  have HO1 := hide (row_at own1)
  clear own1
  go_wp2_with fail
  refine (sapplied _ _ _ l (hide rfl) (unhide HS) x0 c0 HX0 HC0 _ (unhide HO1)).mono ?_
  rintro e w2 ⟨rfl, hb2⟩
  have B2 := hide (hb1.trans (hb2.mono hb1.size))
  clear hb1 hb2 HO1
  go_wp2_with fail
  refine (copyString a0 cap0 l (unhide HS) _ ((unhide HR).below (unhide B2))).mono ?_
  rintro e w3 ⟨rfl, own3, hb3⟩
  have HX3 := hide (held_of own3)
  have B3 := hide ((unhide B2).trans (hb3.mono (unhide B2).size))
  clear own3 hb3 B2
  go_wp2_with fail
  refine (iapplied _ _ _ l (hide rfl) (unhide HS) x0 c0 HX0 HC0 _ (unhide HX3).rowV).mono ?_
  rintro e w4 ⟨rfl, rfl⟩
  go_wp2_with fail
  refine (copyString a0 cap0 l (unhide HS) _ ((unhide HR).below (unhide B3))).mono ?_
  rintro e w6 ⟨rfl, own6, hb6⟩
  have HY6 := hide (row_at own6)
  have HX6 := hide ((unhide HX3).below hb6 (unhide HX3).le)
  have B6 := hide ((unhide B3).trans (hb6.mono (unhide B3).size))
  clear own6 hb6 HX3 B3
  go_wp2_with fail
  refine (sameString _ _ _ _ l (unhide HS) _ (unhide HX6).rowV (unhide HY6)).mono ?_
  rintro e w7 ⟨rfl, hb7⟩
  have B7 := hide ((unhide B6).trans (hb7.mono (unhide B6).size))
  clear hb7
  go_wp2_with fail
  go_ret
  exact ⟨rfl, unhide B7⟩

set_option maxRecDepth 100000 in
theorem lifted (os : Os) (started : os.Started) (H : Type) (enc : TypeId × Value → H) :
    ReturnsInHanded {} Try.checked os 3 .any (Rows.fnExactAppliedCountSpec.pre6 enc Try.prog Try.f3 Rows.fnExactAppliedCountRow.domain false) (Rows.fnExactAppliedCountSpec.post enc Try.prog Try.f3 false true false false) := by
  refine returnsInHanded_of_change (C := Try.checked) own started (by kernel_rfl) Try.func3
    (ChangeSpec.witness6 (enc := enc) (C := Try.checked) false ⟨#[], #[.slice none 0 0], []⟩ 8 (by kernel_rfl) (by kernel_rfl) (by kernel_rfl) (by kernel_rfl)) ?_
  intro W base args ds gs before hval0 hW hcnd _
  have hval : ∀ (j : Nat) t v, Try.f3.params[j]? = some t → args[j]? = some v → Value.okWide Try.prog W .any base t v := hval0
  have hW' := hW
  obtain ⟨p, q, hA0, hV, rfl, hfz, hnd⟩ := hW
  have hA : DataW.TrodAll enc Try.prog W 0 (fun _ => true) true Try.f3.params.toList args.toList ds p := hA0
  rw [Try.params3] at hA hval
  obtain ⟨v0, vs0, d0, ds0, p0, q0, hargs, rfl, rfl, h0, r0⟩ := trodAll_cons hA
  obtain ⟨rfl, rfl, rfl⟩ := trodAll_nil r0
  obtain rfl : args = #[v0] := by cases args; simp_all
  obtain ⟨rfl, rfl⟩ := trodVars_none hV
  obtain ⟨a0, len0, cap0, rfl⟩ := okWide_slice Try.underlying22 (hval 0 22 v0 rfl rfl)
  have k0 := h0
  have lt0 : ∀ x ∈ p0, x.block < W.heap.size := by obtain ⟨m, hm⟩ := k0; exact DataW.trod_lt m _ _ _ hm
  obtain ⟨l, e0, hlen, hsz, hrow⟩ : ∃ l : List ByteArray, l.length = len0 ∧ l.length ≤ maxLen ∧ (∀ k (h : k < l.length), l[k].size ≤ maxLen) ∧ RowV W a0 (cS l) := by
    obtain ⟨fuel, hf⟩ := h0
    rcases Go.Deep.open_strs Try.underlying22 Try.underlying9 (by kernel_rfl) hf with ⟨hcs, _⟩ | ⟨x, len, c, m, Sx, hcs, _, hl, hm, hmm, _, hcell⟩
    · simp [Value.cells] at hcs
      obtain ⟨rfl, rfl, rfl⟩ := hcs
      exact ⟨[], rfl, by simp, fun k h => by simp at h, .inl rfl⟩
    · simp [Value.cells] at hcs
      obtain ⟨rfl, rfl, rfl⟩ := hcs
      obtain ⟨l, h1, h2, h3⟩ := rowS_of Sx (by rw [hmm]; split <;> omega) hcell
      exact ⟨l, h1, by omega, h2, h3⟩
  clear hA0 hval0
  refine (walk a0 len0 cap0 l e0 hlen hsz W hrow).mono fun e W' ⟨he, bel⟩ => ?_
  subst he
  exact ⟨_, rfl, _, _, _, [], _, [], hW', trodAll_mk1 (shut_bool Try.underlying4 _), (trodAll_cons_mk (Below.trod laidOut (by kernel_rfl) (of_decide_eq_true (by kernel_rfl)) k0 bel lt0) trodAll_mk0), rfl, bel.frame _, fun h => by cases h⟩

theorem over : Rows.fnExactAppliedCountRow.holds Try.pinned (OpenSpec.ofChange Rows.fnExactAppliedCountSpec) :=
  OpenClaim.holds_of_wide 3 Try.f3 rfl rfl rfl rfl rfl rfl rfl ⟨rfl, rfl, rfl, rfl, rfl⟩ rfl rfl rfl rfl rfl (by kernel_rfl) Try.func3 (by kernel_rfl)
    (of_decide_eq_true (by kernel_rfl)) (by unfold Func.isWrapper; first | (rw [if_pos (by decide +kernel)]; kernel_rfl) | (rw [if_neg (by decide +kernel)]; exact ⟨rfl, rfl⟩))
    (fun os started H enc _ => lifted os started H enc)

theorem proved : Rows.FnExactAppliedCountSaid := over
#print axioms proved
end Go.Proofs.Ytindlkieobbgmaa
