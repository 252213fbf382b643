/- IssueToken: what the program answers. -/
import Derived.Test.YtilnpkonhbmdpaaDoorZG20
import Derived.Test.YtilnpkonhbmdpaaDoorZTokH
namespace Go.Proofs.YtilnpkonhbmdpaaDoor
open Go.ChangeShapes Go.WideShapes Go.ChangeAt Go.RowKit
set_option linter.unusedVariables false
set_option maxHeartbeats 4000000 in
set_option maxRecDepth 100000 in
theorem iitk (c : Int) (win : ByteArray) (n : Int) (key : ByteArray) (HKS : Hid (key.size ≤ 1048576)) (HWS : Hid (win.size ≤ 1048576)) (S : ByteArray) (HS : Hid (S = itkS key c win n)) (q : Int) (HQ : Hid (q = tmC key c win n)) (w : World) (hp : PowIn w) (hk : KIn w) :
    Calls Tryd.prog 28 #[.string key, .int .i64 c, .string win, .int .i64 n] w fun e w' => e = .returned (.tuple #[.string S, .int .i64 q]) ∧ Below w.heap.size w w' := by
  have HP := hide hp
  have HK := hide hk
  have B0 := hide (Below.refl w.heap.size w)
  obtain ⟨M, hM⟩ : ∃ M, M = tmS key c win n := ⟨_, rfl⟩
  have HM := hide hM
  by_cases hq : q = 0
  · subst hq
    have hq0 : (0 : Int) = tmC key c win n := unhide HQ
    have hl : tmL key win = false ∧ tokB c win n = true := by
      unfold tmC at hq0
      split at hq0
      · cases hq0
      · split at hq0
        · refine ⟨by simp_all, by assumption⟩
        · cases hq0
    have HT := hide hl.2
    obtain ⟨R, hR⟩ : ∃ R, R = hdT c win n := ⟨_, rfl⟩
    have HR := hide hR
    have HRS : Hid (R.size ≤ 1048576) := by show _ ≤ _; rw [hR]; have := hdT_size hl.2; omega
    have hMk : M = mkT key c win n := by rw [hM]; unfold tmS; rw [hl.1, hl.2]; rfl
    have HMS : Hid (∀ k (h : k < [M].length), [M][k].size ≤ 1048576) := by
      have e := mkT_size key c win n
      rw [← hMk] at e
      intro k hk
      match k, hk with
      | 0, _ => show M.size ≤ _; omega
    have HSR : Hid (S = bjS R [M]) := by show _ = _; rw [unhide HS, hR, hMk]; unfold itkS; rw [hl.1, hl.2]; rfl
    clear hM hR hMk hl hq0 HS hp hk
    go_enter Tryd.func28, Tryd.ntmps28
    go_wp2_with (first
      | (go_at_call 38; refine (itm c win n key HKS HWS M HM 0 HQ _ (unhide HP) (unhide HK)).mono ?_; rintro e w2 ⟨rfl, hb2⟩; have B2 := hide ((unhide B0).trans (hb2.mono (unhide B0).size)); clear hb2)
      | (go_at_call 40; have B2' := B2; refine (ihead c win n HT R HR _ ((unhide HP).below (unhide B2) (unhide HP).pos)).mono ?_; rintro e w3 ⟨rfl, hb3⟩; have B3 := hide ((unhide B2).trans (hb3.mono (unhide B2).size)); have R4 := hide (rowZ_at (base := w3.heap.size) (e := 9) (z := 1) (n := 1) (cap := 1) (World.ownsRow_lit (e := 9) (base := w3.heap.size) (size := 1) w3 #[.string M] 1 (Nat.le_refl _) (by unfold maxLen; omega) (by simp))); have B4 := hide ((unhide B3).alloc (unhide B3).size (.cells #[.string M] 9)); clear hb3)
      | (go_at_call 39; refine (ibj R (some ⟨_, 0, none⟩) 1 1 [M] rfl (by decide) HRS HMS S HSR _ (unhide R4)).mono ?_; rintro e w5 ⟨rfl, hb5⟩; have B5 := hide ((unhide B4).trans (hb5.mono (unhide B4).size)); clear hb5))
    go_ret2
    exact ⟨rfl, unhide B5⟩
  · have hq' : (q != 0) = true := by simp [hq]
    have hS : S = ⟨#[]⟩ := by
      have h1 := unhide HQ
      rw [unhide HS]
      unfold itkS
      unfold tmC at h1
      split
      · rfl
      · rename_i h2
        rw [if_neg h2] at h1
        split at h1
        · exact absurd h1 hq
        · rename_i h3; rw [if_neg h3]
    subst hS
    clear hM HS hp hk hq
    go_enter Tryd.func28, Tryd.ntmps28
    go_wp2_with (go_at_call 38; refine (itm c win n key HKS HWS M HM q HQ _ (unhide HP) (unhide HK)).mono ?_; rintro e w2 ⟨rfl, hb2⟩; have B2 := hide ((unhide B0).trans (hb2.mono (unhide B0).size)); clear hb2)
    go_ret2
    exact ⟨rfl, unhide B2⟩
end Go.Proofs.YtilnpkonhbmdpaaDoor
