/- Texts put together: IssI CkI. -/
import Derived.Test.YtmmnoepcklfonaaGreatDoorZG13
import Derived.Test.YtmmnoepcklfonaaGreatDoorZTokH
import Derived.Test.YtmmnoepcklfonaaGreatDoorZG18
/- IssueToken: what the program answers. -/
namespace Go.Proofs.YtmmnoepcklfonaaGreatDoor
open Go.ChangeShapes Go.WideShapes Go.ChangeAt Go.RowKit
set_option linter.unusedVariables false
set_option maxHeartbeats 4000000 in
set_option maxRecDepth 100000 in
theorem iitk (c : Int) (win : ByteArray) (n : Int) (key : ByteArray) (HKS : Hid (key.size ≤ 1048576)) (HWS : Hid (win.size ≤ 1048576)) (S : ByteArray) (HS : Hid (S = itkS key c win n)) (q : Int) (HQ : Hid (q = tmC key c win n)) (w : World) (hp : PowIn w) (hk : KIn w) :
    Calls Tryz.prog 53 #[.string key, .int .i64 c, .string win, .int .i64 n] w fun e w' => e = .returned (.tuple #[.string S, .int .i64 q]) ∧ Below w.heap.size w w' := by
  have HP := hide hp
  have HK := hide hk
  have B0 := hide (Below.refl w.heap.size w)
  obtain ⟨M, hM⟩ : ∃ M, M = tmS key c win n := ⟨_, rfl⟩
  have HM := hide hM
  by_cases hq : q = 0
  · subst hq
    have hq0 : (0 : Int) = tmC key c win n := unhide HQ
    have hl : tmL key win = false ∧ tokB c win n = true := by
      unfold tmC at hq0
      split at hq0
      · cases hq0
      · split at hq0
        · refine ⟨by simp_all, by assumption⟩
        · cases hq0
    have HT := hide hl.2
    obtain ⟨R, hR⟩ : ∃ R, R = hdT c win n := ⟨_, rfl⟩
    have HR := hide hR
    have HRS : Hid (R.size ≤ 1048576) := by show _ ≤ _; rw [hR]; have := hdT_size hl.2; omega
    have hMk : M = mkT key c win n := by rw [hM]; unfold tmS; rw [hl.1, hl.2]; rfl
    have HMS : Hid (∀ k (h : k < [M].length), [M][k].size ≤ 1048576) := by
      have e := mkT_size key c win n
      rw [← hMk] at e
      intro k hk
      match k, hk with
      | 0, _ => show M.size ≤ _; omega
    have HSR : Hid (S = bjS R [M]) := by show _ = _; rw [unhide HS, hR, hMk]; unfold itkS; rw [hl.1, hl.2]; rfl
    clear hM hR hMk hl hq0 HS hp hk
    go_enter Tryz.func53, Tryz.ntmps53
    go_wp2_with (first
      | (go_at_call 73; refine (itm c win n key HKS HWS M HM 0 HQ _ (unhide HP) (unhide HK)).mono ?_; rintro e w2 ⟨rfl, hb2⟩; have B2 := hide ((unhide B0).trans (hb2.mono (unhide B0).size)); clear hb2)
      | (go_at_call 75; have B2' := B2; refine (ihead c win n HT R HR _ ((unhide HP).below (unhide B2) (unhide HP).pos)).mono ?_; rintro e w3 ⟨rfl, hb3⟩; have B3 := hide ((unhide B2).trans (hb3.mono (unhide B2).size)); have R4 := hide (rowZ_at (base := w3.heap.size) (e := 9) (z := 1) (n := 1) (cap := 1) (World.ownsRow_lit (e := 9) (base := w3.heap.size) (size := 1) w3 #[.string M] 1 (Nat.le_refl _) (by unfold maxLen; omega) (by simp))); have B4 := hide ((unhide B3).alloc (unhide B3).size (.cells #[.string M] 9)); clear hb3)
      | (go_at_call 74; refine (ibj R (some ⟨_, 0, none⟩) 1 1 [M] rfl (by decide) HRS HMS S HSR _ (unhide R4)).mono ?_; rintro e w5 ⟨rfl, hb5⟩; have B5 := hide ((unhide B4).trans (hb5.mono (unhide B4).size)); clear hb5))
    go_ret2
    exact ⟨rfl, unhide B5⟩
  · have hq' : (q != 0) = true := by simp [hq]
    have hS : S = ⟨#[]⟩ := by
      have h1 := unhide HQ
      rw [unhide HS]
      unfold itkS
      unfold tmC at h1
      split
      · rfl
      · rename_i h2
        rw [if_neg h2] at h1
        split at h1
        · exact absurd h1 hq
        · rename_i h3; rw [if_neg h3]
    subst hS
    clear hM HS hp hk hq
    go_enter Tryz.func53, Tryz.ntmps53
    go_wp2_with (go_at_call 73; refine (itm c win n key HKS HWS M HM q HQ _ (unhide HP) (unhide HK)).mono ?_; rintro e w2 ⟨rfl, hb2⟩; have B2 := hide ((unhide B0).trans (hb2.mono (unhide B0).size)); clear hb2)
    go_ret2
    exact ⟨rfl, unhide B2⟩
end Go.Proofs.YtmmnoepcklfonaaGreatDoor

/- ClientOK: what the program answers. -/
namespace Go.Proofs.YtmmnoepcklfonaaGreatDoor
open Go.ChangeShapes Go.WideShapes Go.ChangeAt Go.RowKit
set_option linter.unusedVariables false
set_option maxHeartbeats 2000000 in
set_option maxRecDepth 100000 in
theorem ihasT (id : Int) (win tok : ByteArray) (nb vw vh : Int) (a : Option Addr) (n cap : Nat) (key : ByteArray) (nr : Int) (t : ByteArray) (HKS : Hid (key.size ≤ 1048576)) (HWS : Hid (win.size ≤ 1048576)) (R : Bool) (HR : Hid (R = htB key id win nr t)) (w : World) (hp : PowIn w) (hk : KIn w) :
    Calls Tryz.prog 25 #[.agg #[.int .i64 id, .string win, .string tok, .int .i64 nb, .int .i64 vw, .int .i64 vh, .slice a n cap], .string key, .int .i64 nr, .string t] w fun e w' => e = .returned (.bool R) ∧ Below w.heap.size w w' := by
  have B0 := hide (Go.Joins.below_alloc1 w (.cells #[.int .i64 id, .string win, .string tok, .int .i64 nb, .int .i64 vw, .int .i64 vh, .slice a n cap] 34))
  have HP := hide (hp.below (unhide B0) hp.pos)
  have HK := hide (hk.below (unhide B0) hk.pos)
  obtain ⟨S, hS⟩ : ∃ S, S = itkS key id win nr := ⟨_, rfl⟩
  obtain ⟨q, hq⟩ : ∃ q, q = tmC key id win nr := ⟨_, rfl⟩
  have hR : R = (decide (q = 0) && (S.toList == t.toList)) := by rw [unhide HR, eq_list, hS, hq]; rfl
  have HS := hide hS
  have HQ := hide hq
  clear hS hq HR hp hk
  by_cases h0 : q = 0
  · subst h0
    obtain ⟨E, hE⟩ : ∃ E, (S.toList == t.toList) = E := ⟨_, rfl⟩
    obtain rfl : R = E := by rw [hR, hE]; rfl
    clear hR
    go_enter Tryz.func25, Tryz.ntmps25
    go_wp2_with (go_at_call 53; refine (iitk id win nr key HKS HWS S HS 0 HQ _ (unhide HP) (unhide HK)).mono ?_; rintro e w2 ⟨rfl, hb2⟩; have B2 := hide ((unhide B0).trans (hb2.mono (unhide B0).size)); clear hb2)
    go_ret
    exact ⟨rfl, unhide B2⟩
  · have h0' : (q == 0) = false := by simpa using h0
    obtain rfl : R = false := by rw [hR, decide_eq_false h0]; rfl
    clear hR h0
    go_enter Tryz.func25, Tryz.ntmps25
    go_wp2_with (go_at_call 53; refine (iitk id win nr key HKS HWS S HS q HQ _ (unhide HP) (unhide HK)).mono ?_; rintro e w2 ⟨rfl, hb2⟩; have B2 := hide ((unhide B0).trans (hb2.mono (unhide B0).size)); clear hb2)
    go_ret
    exact ⟨rfl, unhide B2⟩
set_option maxHeartbeats 2000000 in
set_option maxRecDepth 100000 in
theorem icliok (key : ByteArray) (id : Int) (win tok : ByteArray) (nb vw vh : Int) (a : Option Addr) (cap n : Nat) (l : List ByteArray) (HN : Hid (l.length = n)) (hn : n ≤ 1048576) (HSZ : Hid (∀ k (h : k < l.length), l[k].size ≤ 1048576)) (HKS : Hid (key.size ≤ 1048576)) (HWS : Hid (win.size ≤ 1048576)) (R : Bool) (HR : Hid (R = clB key id win tok nb vw vh l)) (w : World) (hr : RowV w a (cS l)) (hp : PowIn w) (hk : KIn w) :
    Calls Tryz.prog 23 #[.string key, .agg #[.int .i64 id, .string win, .string tok, .int .i64 nb, .int .i64 vw, .int .i64 vh, .slice a n cap]] w fun e w' => e = .returned (.bool R) ∧ Below w.heap.size w w' := by
  have B0 := hide (Go.Joins.below_alloc1 w (.cells #[.int .i64 id, .string win, .string tok, .int .i64 nb, .int .i64 vw, .int .i64 vh, .slice a n cap] 34))
  have Z0 := hide (BF.new w #[.int .i64 id, .string win, .string tok, .int .i64 nb, .int .i64 vw, .int .i64 vh, .slice a n cap] 34)
  have HRW := hide (hr.below (unhide B0))
  have HP := hide hp
  have HK := hide hk
  have HNI := hide hn
  obtain ⟨Q, hQ⟩ : ∃ Q, Q = mirB nb vw vh l := ⟨_, rfl⟩
  have HQ := hide hQ
  cases Q with
  | false =>
    obtain rfl : R = false := by rw [unhide HR]; exact cl_mir hQ.symm _ _ _ _
    clear hr hp hk hn hQ HR
    go_enter Tryz.func23, Tryz.ntmps23
    go_wp2_with (go_at_call 45; refine (imirok nb vw vh a cap n l HN (unhide HNI) HSZ false HQ _ (unhide HRW)).mono ?_; rintro e w2 ⟨rfl, hb2⟩; have B2 := hide ((unhide B0).trans (hb2.mono (unhide B0).size)); clear hb2)
    go_ret
    exact ⟨rfl, unhide B2⟩
  | true =>
    have HT : Hid (R = htB key id win nb tok) := by show _ = _; rw [unhide HR]; unfold clB; rw [← hQ]; rfl
    have kz0 := (unhide Z0).S
    clear hr hp hk hn hQ HR
    go_enter Tryz.func23, Tryz.ntmps23
    go_wp2_with (first | (go_at_call 45; refine (imirok nb vw vh a cap n l HN (unhide HNI) HSZ true HQ _ (unhide HRW)).mono ?_; rintro e w2 ⟨rfl, hb2⟩; have B2 := hide ((unhide B0).trans (hb2.mono (unhide B0).size)); have Z2 := hide ((unhide Z0).below hb2); have kz := (unhide Z2).S; clear kz0 hb2) | (go_at_call 25; (have B2' := B2; refine (ihasT id win tok nb vw vh a n cap key nb tok HKS HWS R HT _ ((unhide HP).below ((unhide B2)) (unhide HP).pos) ((unhide HK).below (unhide B2) (unhide HK).pos)).mono ?_; rintro e w3 ⟨rfl, hb3⟩; have B3 := hide ((unhide B2).trans (hb3.mono (unhide B2).size)); clear hb3)))
    go_ret
    exact ⟨rfl, unhide B3⟩
end Go.Proofs.YtmmnoepcklfonaaGreatDoor
