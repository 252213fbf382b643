/- Tokens: what the specification answers. -/
import Derived.Test.YtilnpkonhbmdpaaDoorZG20
import Derived.Test.YtilnpkonhbmdpaaDoorZHmacS
import Derived.Test.YtilnpkonhbmdpaaDoorZG39
import Derived.Test.YtilnpkonhbmdpaaDoorZG25
import Derived.Lib.SmallJoins
namespace Go.Proofs.YtilnpkonhbmdpaaDoor
open Go.ChangeShapes Go.WideShapes Go.ChangeAt Go.RowKit
set_option linter.unusedVariables false
set_option maxHeartbeats 4000000 in
set_option maxRecDepth 100000 in
theorem sdig_m1 (w : World) : Calls Tryd.prog 32 #[.int .i64 (-1)] w fun e w' => e = .returned (.string (zt (-1))) ∧ Below w.heap.size w w' := by
  obtain ⟨R, hR⟩ : ∃ R, R = zt (-1) := ⟨_, rfl⟩
  obtain ⟨D, hD⟩ : ∃ D, D = digS 1 := ⟨_, rfl⟩
  have HV : Hid (R = ⟨#[45]⟩ ++ D) := by show _ = _; rw [hR, hD]; exact zt_one
  have hz : D.size ≤ 4 := by rw [hD]; exact digS_size 1 (by decide)
  rw [← hR]
  have HD := hide hD
  clear hR hD
  go_enter Tryd.func32, Tryd.ntmps32
  go_wp2_with (go_at_call 32; refine (sdig 1 (by decide) _).mono ?_; rintro e w2 ⟨rfl, hb2⟩; rw [← unhide HD])
  go_ret
  rw [unhide HV]
  exact ⟨rfl, hb2⟩
theorem sdigZ (n : Int) (h0 : -1 ≤ n) (h1 : n ≤ 9999) (w : World) : Calls Tryd.prog 32 #[.int .i64 n] w fun e w' => e = .returned (.string (zt n)) ∧ Below w.heap.size w w' := by
  by_cases h : n = -1
  · subst h; exact sdig_m1 w
  · obtain ⟨k, rfl⟩ : ∃ k : Nat, n = (k : Int) := ⟨n.toNat, by omega⟩
    rw [zt_pos (by omega)]
    exact sdig k (by omega) w
set_option maxHeartbeats 4000000 in
set_option maxRecDepth 100000 in
theorem splain (c : Int) (win : ByteArray) (n : Int) (HT : Hid (tokB c win n = true)) (R : ByteArray) (HR : Hid (R = hdT c win n)) (w : World) :
    Calls Tryd.prog 22 #[.int .i64 c, .string win, .int .i64 n] w fun e w' => e = .returned (.string R) ∧ Below w.heap.size w w' := by
  obtain ⟨t0, t1, t2, t3, t4⟩ := tok_parts (unhide HT)
  have HCB : Hid (-1 ≤ c ∧ c ≤ 9999) := by constructor <;> omega
  have HNB : Hid (-1 ≤ n ∧ n ≤ 9999) := by constructor <;> omega
  obtain ⟨C, hC⟩ : ∃ C, C = zt c := ⟨_, rfl⟩
  obtain ⟨N, hN⟩ : ∃ N, N = zt n := ⟨_, rfl⟩
  have z1 : C.size ≤ 5 := by rw [hC]; exact zt_size (by omega) (by omega)
  have z2 : N.size ≤ 5 := by rw [hN]; exact zt_size (by omega) (by omega)
  obtain ⟨U1, hU1⟩ : ∃ U, U = (⟨#[116, 111, 107, 101, 110, 32]⟩ : ByteArray) ++ C := ⟨_, rfl⟩
  obtain ⟨U2, hU2⟩ : ∃ U, U = U1 ++ (⟨#[32]⟩ : ByteArray) := ⟨_, rfl⟩
  obtain ⟨U3, hU3⟩ : ∃ U, U = U2 ++ win := ⟨_, rfl⟩
  obtain ⟨U4, hU4⟩ : ∃ U, U = U3 ++ (⟨#[32]⟩ : ByteArray) := ⟨_, rfl⟩
  have HV : Hid (R = U4 ++ N) := by show _ = _; rw [unhide HR, ← hdT_spec, hU4, hU3, hU2, hU1, hC, hN]; rfl
  have e6 : (⟨#[116, 111, 107, 101, 110, 32]⟩ : ByteArray).size = 6 := rfl
  have e1 : (⟨#[32]⟩ : ByteArray).size = 1 := rfl
  have y1 : U1.size ≤ 11 := by rw [hU1, ByteArray.size_append]; omega
  have y2 : U2.size ≤ 12 := by rw [hU2, ByteArray.size_append]; omega
  have y3 : U3.size ≤ 24 := by rw [hU3, ByteArray.size_append]; omega
  have y4 : U4.size ≤ 25 := by rw [hU4, ByteArray.size_append]; omega
  have HC := hide hC
  have HN := hide hN
  have H1 := hide hU1
  have H2 := hide hU2
  have H3 := hide hU3
  have H4 := hide hU4
  have B0 := hide (Below.refl w.heap.size w)
  clear hC hN hU1 hU2 hU3 hU4 e6 e1 HR
  go_enter Tryd.func22, Tryd.ntmps22
  go_wp2_with fail
  refine (sdigZ c (unhide HCB).1 (unhide HCB).2 _).mono ?_
  rintro e w2 ⟨rfl, hb2⟩
  rw [← unhide HC]
  have B2 := hide ((unhide B0).trans (hb2.mono (unhide B0).size))
  clear hb2
  go_wp2_with fail
  refine (sdigZ n (unhide HNB).1 (unhide HNB).2 _).mono ?_
  rintro e w3 ⟨rfl, hb3⟩
  rw [← unhide HN]
  have B3 := hide ((unhide B2).trans (hb3.mono (unhide B2).size))
  clear hb3
  go_wp2_with fail
  go_ret
  rw [unhide HV, unhide H4, unhide H3, unhide H2, unhide H1]
  exact ⟨rfl, unhide B3⟩
set_option maxHeartbeats 4000000 in
set_option maxRecDepth 100000 in
theorem sask (c : Int) (win : ByteArray) (n : Int) (HS : Hid (win.size ≤ 1048576)) (R : Bool) (HR : Hid (R = tokB c win n)) (w : World) :
    Calls Tryd.prog 10 #[.int .i64 c, .string win, .int .i64 n] w fun e w' => e = .returned (.bool R) ∧ w' = w := by
  obtain ⟨A, hA⟩ : ∃ A, A = inB c 0 200 := ⟨_, rfl⟩
  obtain ⟨B, hB⟩ : ∃ B, B = nameB win := ⟨_, rfl⟩
  obtain ⟨C, hC⟩ : ∃ C, C = inB n (-1) 60 := ⟨_, rfl⟩
  have HRR : Hid (R = (A && ((decide (win.size ≤ 12) && B) && C))) := by show _ = _; rw [unhide HR, hA, hB, hC]; rfl
  have HA := hide hA
  have HB := hide hB
  have HC := hide hC
  clear hA hB hC HR
  by_cases hl : win.size ≤ 12
  · have hl' : (win.size : Int) ≤ 12 := by omega
    have HL : Hid (decide (win.size ≤ 12) = true) := by show _ = _; simp [hl]
    clear hl
    cases A
    · skip
      go_enter Tryd.func10, Tryd.ntmps10
      go_wp2_with fail
      refine (sin c 0 200 _).mono ?_
      rintro e w2 ⟨rfl, hw⟩
      subst w2
      rw [← unhide HA]
      go_wp2_with fail
      go_ret
      exact ⟨ret_bool (by rw [unhide HRR, unhide HL]; first | rfl | (cases C <;> rfl)), rfl⟩
    cases B
    · skip
      go_enter Tryd.func10, Tryd.ntmps10
      go_wp2_with fail
      refine (sin c 0 200 _).mono ?_
      rintro e w2 ⟨rfl, hw⟩
      subst w2
      rw [← unhide HA]
      go_wp2_with fail
      refine (name5 win (unhide HS) _).mono ?_
      rintro e w2 ⟨rfl, hw⟩
      subst w2
      rw [← unhide HB]
      go_wp2_with fail
      go_ret
      exact ⟨ret_bool (by rw [unhide HRR, unhide HL]; first | rfl | (cases C <;> rfl)), rfl⟩
    · skip
      go_enter Tryd.func10, Tryd.ntmps10
      go_wp2_with fail
      refine (sin c 0 200 _).mono ?_
      rintro e w2 ⟨rfl, hw⟩
      subst w2
      rw [← unhide HA]
      go_wp2_with fail
      refine (name5 win (unhide HS) _).mono ?_
      rintro e w2 ⟨rfl, hw⟩
      subst w2
      rw [← unhide HB]
      go_wp2_with fail
      refine (sin n (-1) 60 _).mono ?_
      rintro e w2 ⟨rfl, hw⟩
      subst w2
      rw [← unhide HC]
      go_wp2_with fail
      go_ret
      exact ⟨ret_bool (by rw [unhide HRR, unhide HL]; first | rfl | (cases C <;> rfl)), rfl⟩
  · have hl' : ¬ (win.size : Int) ≤ 12 := by omega
    have HL : Hid (decide (win.size ≤ 12) = false) := by show _ = _; simp [hl]
    clear hl
    cases A
    all_goals
      go_enter Tryd.func10, Tryd.ntmps10
      go_wp2_with fail
      refine (sin c 0 200 _).mono ?_
      rintro e w2 ⟨rfl, hw⟩
      subst w2
      rw [← unhide HA]
      go_wp2_with fail
      go_ret
      exact ⟨ret_bool (by rw [unhide HRR, unhide HL]; first | rfl | (cases C <;> rfl)), rfl⟩
set_option maxHeartbeats 4000000 in
set_option maxRecDepth 100000 in
theorem smark12 (c : Int) (win : ByteArray) (n : Int) (HT : Hid (tokB c win n = true)) (key : ByteArray) (HKS : Hid (key.size ≤ 65536)) (M : ByteArray) (HM : Hid (M = mkT key c win n)) (w : World) :
    Calls Tryd.prog 23 #[.string key, .int .i64 c, .string win, .int .i64 n] w fun e w' => e = .returned (.string M) ∧ Below w.heap.size w w' := by
  have B0 := hide (Below.refl w.heap.size w)
  obtain ⟨R, hR⟩ : ∃ R, R = hdT c win n := ⟨_, rfl⟩
  have HR := hide hR
  have HRS : Hid (R.size ≤ 60) := by rw [hR]; exact hdT_size (unhide HT)
  obtain ⟨H, hH⟩ : ∃ H, H = hmacB key R := ⟨_, rfl⟩
  have HH := hide hH
  have HHS : Hid (H.size = 32) := by rw [hH]; exact hash_size _
  obtain ⟨D, hD⟩ : ∃ D, D = hexT H := ⟨_, rfl⟩
  have hds : D.size = 64 := by
    rw [hD]
    show (hexL H.data.toList).toArray.size = 64
    rw [List.size_toArray, hexL_len, show H.data.toList.length = H.size from Array.length_toList, unhide HHS]
  have hd32 : 32 ≤ D.size := by omega
  have HDD : Hid (D = ⟨(hexL H.data.toList).toArray⟩) := hD
  have HMM : Hid (M = D.extract 0 32) := by show _ = _; rw [unhide HM, hD, hH, hR]; rfl
  clear hR hH hD HM hds
  go_enter Tryd.func23, Tryd.ntmps23
  go_wp2_with (first
    | (go_at_call 22; refine (splain c win n HT R HR _).mono ?_; rintro e w2 ⟨rfl, hb2⟩; have B2 := hide ((unhide B0).trans (hb2.mono (unhide B0).size)); clear hb2)
    | (go_at_call 34; have B2' := B2; refine (shmac38 key R (unhide HKS) (by have := unhide HRS; omega) _).mono ?_; rintro e w3 ⟨rfl, hb3⟩; rw [← unhide HH]; have B3 := hide ((unhide B2).trans (hb3.mono (unhide B2).size)); clear hb3)
    | (go_at_call 33; have B3' := B3; refine (hex12 H (by have := unhide HHS; omega) _).mono ?_; rintro e w4 ⟨rfl, hb4⟩; rw [← unhide HDD]; have B4 := hide ((unhide B3).trans (hb4.mono (unhide B3).size)); clear hb4))
  go_ret
  rw [unhide HMM]
  exact ⟨rfl, unhide B4⟩
end Go.Proofs.YtilnpkonhbmdpaaDoor
