/- ClientOK: what the program answers. -/
import Derived.Test.YtilnpkonhbmdpaaDoorZCkM
import Derived.Test.YtilnpkonhbmdpaaDoorZIssI
namespace Go.Proofs.YtilnpkonhbmdpaaDoor
open Go.ChangeShapes Go.WideShapes Go.ChangeAt Go.RowKit
set_option linter.unusedVariables false
set_option maxHeartbeats 2000000 in
set_option maxRecDepth 100000 in
theorem ihasT (id : Int) (win tok : ByteArray) (nb vw vh : Int) (a : Option Addr) (n cap : Nat) (key : ByteArray) (nr : Int) (t : ByteArray) (HKS : Hid (key.size ≤ 1048576)) (HWS : Hid (win.size ≤ 1048576)) (R : Bool) (HR : Hid (R = htB key id win nr t)) (w : World) (hp : PowIn w) (hk : KIn w) :
    Calls Tryd.prog 15 #[.agg #[.int .i64 id, .string win, .string tok, .int .i64 nb, .int .i64 vw, .int .i64 vh, .slice a n cap], .string key, .int .i64 nr, .string t] w fun e w' => e = .returned (.bool R) ∧ Below w.heap.size w w' := by
  have B0 := hide (Go.Joins.below_alloc1 w (.cells #[.int .i64 id, .string win, .string tok, .int .i64 nb, .int .i64 vw, .int .i64 vh, .slice a n cap] 31))
  have HP := hide (hp.below (unhide B0) hp.pos)
  have HK := hide (hk.below (unhide B0) hk.pos)
  obtain ⟨S, hS⟩ : ∃ S, S = itkS key id win nr := ⟨_, rfl⟩
  obtain ⟨q, hq⟩ : ∃ q, q = tmC key id win nr := ⟨_, rfl⟩
  have hR : R = (decide (q = 0) && (S.toList == t.toList)) := by rw [unhide HR, eq_list, hS, hq]; rfl
  have HS := hide hS
  have HQ := hide hq
  clear hS hq HR hp hk
  by_cases h0 : q = 0
  · subst h0
    obtain ⟨E, hE⟩ : ∃ E, (S.toList == t.toList) = E := ⟨_, rfl⟩
    obtain rfl : R = E := by rw [hR, hE]; rfl
    clear hR
    go_enter Tryd.func15, Tryd.ntmps15
    go_wp2_with (go_at_call 28; refine (iitk id win nr key HKS HWS S HS 0 HQ _ (unhide HP) (unhide HK)).mono ?_; rintro e w2 ⟨rfl, hb2⟩; have B2 := hide ((unhide B0).trans (hb2.mono (unhide B0).size)); clear hb2)
    go_ret
    exact ⟨rfl, unhide B2⟩
  · have h0' : (q == 0) = false := by simpa using h0
    obtain rfl : R = false := by rw [hR, decide_eq_false h0]; rfl
    clear hR h0
    go_enter Tryd.func15, Tryd.ntmps15
    go_wp2_with (go_at_call 28; refine (iitk id win nr key HKS HWS S HS q HQ _ (unhide HP) (unhide HK)).mono ?_; rintro e w2 ⟨rfl, hb2⟩; have B2 := hide ((unhide B0).trans (hb2.mono (unhide B0).size)); clear hb2)
    go_ret
    exact ⟨rfl, unhide B2⟩
set_option maxHeartbeats 2000000 in
set_option maxRecDepth 100000 in
theorem icliok (key : ByteArray) (id : Int) (win tok : ByteArray) (nb vw vh : Int) (a : Option Addr) (cap n : Nat) (l : List ByteArray) (HN : Hid (l.length = n)) (hn : n ≤ 1048576) (HSZ : Hid (∀ k (h : k < l.length), l[k].size ≤ 1048576)) (HKS : Hid (key.size ≤ 1048576)) (HWS : Hid (win.size ≤ 1048576)) (R : Bool) (HR : Hid (R = clB key id win tok nb vw vh l)) (w : World) (hr : RowV w a (cS l)) (hp : PowIn w) (hk : KIn w) :
    Calls Tryd.prog 7 #[.string key, .agg #[.int .i64 id, .string win, .string tok, .int .i64 nb, .int .i64 vw, .int .i64 vh, .slice a n cap]] w fun e w' => e = .returned (.bool R) ∧ Below w.heap.size w w' := by
  have B0 := hide (Go.Joins.below_alloc1 w (.cells #[.int .i64 id, .string win, .string tok, .int .i64 nb, .int .i64 vw, .int .i64 vh, .slice a n cap] 31))
  have Z0 := hide (BF.new w #[.int .i64 id, .string win, .string tok, .int .i64 nb, .int .i64 vw, .int .i64 vh, .slice a n cap] 31)
  have HRW := hide (hr.below (unhide B0))
  have HP := hide hp
  have HK := hide hk
  have HNI := hide hn
  obtain ⟨Q, hQ⟩ : ∃ Q, Q = mirB nb vw vh l := ⟨_, rfl⟩
  have HQ := hide hQ
  cases Q with
  | false =>
    obtain rfl : R = false := by rw [unhide HR]; exact cl_mir hQ.symm _ _ _ _
    clear hr hp hk hn hQ HR
    go_enter Tryd.func7, Tryd.ntmps7
    go_wp2_with (go_at_call 14; refine (imirok nb vw vh a cap n l HN (unhide HNI) HSZ false HQ _ (unhide HRW)).mono ?_; rintro e w2 ⟨rfl, hb2⟩; have B2 := hide ((unhide B0).trans (hb2.mono (unhide B0).size)); clear hb2)
    go_ret
    exact ⟨rfl, unhide B2⟩
  | true =>
    have HT : Hid (R = htB key id win nb tok) := by show _ = _; rw [unhide HR]; unfold clB; rw [← hQ]; rfl
    have kz0 := (unhide Z0).S
    clear hr hp hk hn hQ HR
    go_enter Tryd.func7, Tryd.ntmps7
    go_wp2_with (first | (go_at_call 14; refine (imirok nb vw vh a cap n l HN (unhide HNI) HSZ true HQ _ (unhide HRW)).mono ?_; rintro e w2 ⟨rfl, hb2⟩; have B2 := hide ((unhide B0).trans (hb2.mono (unhide B0).size)); have Z2 := hide ((unhide Z0).below hb2); have kz := (unhide Z2).S; clear kz0 hb2) | (go_at_call 15; (have B2' := B2; refine (ihasT id win tok nb vw vh a n cap key nb tok HKS HWS R HT _ ((unhide HP).below ((unhide B2)) (unhide HP).pos) ((unhide HK).below (unhide B2) (unhide HK).pos)).mono ?_; rintro e w3 ⟨rfl, hb3⟩; have B3 := hide ((unhide B2).trans (hb3.mono (unhide B2).size)); clear hb3)))
    go_ret
    exact ⟨rfl, unhide B3⟩
end Go.Proofs.YtilnpkonhbmdpaaDoor
