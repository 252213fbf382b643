/- IssueToken: what the specification answers. -/
import Derived.Test.YtcgklaplofnemaaDoorZG23
import Derived.Test.YtcgklaplofnemaaDoorZTokS
namespace Go.Proofs.YtcgklaplofnemaaDoor
open Go.ChangeShapes Go.WideShapes Go.ChangeAt Go.RowKit
set_option linter.unusedVariables false
set_option maxHeartbeats 4000000 in
set_option maxRecDepth 100000 in
theorem sissue (c : Int) (win : ByteArray) (n : Int) (HT : Hid (tokB c win n = true)) (key : ByteArray) (HKS : Hid (key.size ≤ 65536)) (S : ByteArray) (HS : Hid (S = issT key c win n)) (w : World) :
    Calls Tryd.prog 17 #[.string key, .int .i64 c, .string win, .int .i64 n] w fun e w' => e = .returned (.string S) ∧ Below w.heap.size w w' := by
  have B0 := hide (Below.refl w.heap.size w)
  obtain ⟨R, hR⟩ : ∃ R, R = hdT c win n := ⟨_, rfl⟩
  have HR := hide hR
  have z1 : R.size ≤ 60 := by rw [hR]; exact hdT_size (unhide HT)
  obtain ⟨M, hM⟩ : ∃ M, M = mkT key c win n := ⟨_, rfl⟩
  have HM := hide hM
  have z2 : M.size ≤ 32 := by rw [hM, mkT_size]; exact Nat.le_refl _
  obtain ⟨U, hU⟩ : ∃ U, U = R ++ (⟨#[32]⟩ : ByteArray) := ⟨_, rfl⟩
  have z3 : U.size ≤ 61 := by rw [hU, ByteArray.size_append]; have e : (⟨#[32]⟩ : ByteArray).size = 1 := rfl; omega
  have HV : Hid (S = U ++ M) := by show _ = _; rw [unhide HS, issT_spec, hU, hR, hM]
  have HU := hide hU
  clear hR hM hU HS
  go_enter Tryd.func17, Tryd.ntmps17
  go_wp2_with (first
    | (go_at_call 25; refine (splain c win n HT R HR _).mono ?_; rintro e w2 ⟨rfl, hb2⟩; have B2 := hide ((unhide B0).trans (hb2.mono (unhide B0).size)); clear hb2)
    | (go_at_call 26; have B2' := B2; refine (smark12 c win n HT key HKS M HM _).mono ?_; rintro e w3 ⟨rfl, hb3⟩; have B3 := hide ((unhide B2).trans (hb3.mono (unhide B2).size)); clear hb3))
  go_ret
  rw [unhide HV, unhide HU]
  exact ⟨rfl, unhide B3⟩
end Go.Proofs.YtcgklaplofnemaaDoor
