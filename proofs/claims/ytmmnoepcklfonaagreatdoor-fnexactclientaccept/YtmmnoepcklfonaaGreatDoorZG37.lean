/- Texts put together: HexS InS TokS IssS. -/
import Derived.Test.YtmmnoepcklfonaaGreatDoorZG10
import Derived.Test.YtmmnoepcklfonaaGreatDoorZG1
import Derived.Test.YtmmnoepcklfonaaGreatDoorZG13
import Derived.Test.YtmmnoepcklfonaaGreatDoorZHmacS
import Derived.Test.YtmmnoepcklfonaaGreatDoorZG15
import Derived.Lib.SmallJoins
/- Hashes as digits: what the text of the specification makes of every string. -/
namespace Go.Proofs.YtmmnoepcklfonaaGreatDoor
open Go.ChangeShapes Go.WideShapes Go.ChangeAt Go.RowKit

set_option maxHeartbeats 400000 in
set_option maxRecDepth 100000 in
theorem hex12 (s : ByteArray) (hs : s.size ≤ 1048576) (w : World) :
    Calls Tryz.prog 79 #[.string s] w fun e w' => e = .returned (.string ⟨(hexL s.data.toList).toArray⟩) ∧ Below w.heap.size w w' := by
  obtain ⟨i0, hi, hz0, hz1, hz2⟩ := info_parts Tryz.info5
  go_enter Tryz.func79, Tryz.ntmps79
  go_wp2_with fail
  go_loopw [3, 4] (fun v i wr => ∃ k : Nat, k ≤ s.size ∧ i = .int .i64 k ∧ wr.ownsRow w.heap.size 5 1 v (hexL (s.data.toList.take k)).length (B8 (hexL (s.data.toList.take k))) ∧ Below w.heap.size w wr) (fun _ i _ => s.size - (intOf i).toNat)
  case atStart => exact ⟨0, by omega, rfl, World.ownsRow_lit _ #[] 0 (Nat.le_refl _) (by decide) rfl, (Below.refl _ _).alloc (Nat.le_refl _) _⟩
  case round =>
    obtain ⟨k, hk, rfl, hown, hb⟩ := hrel
    by_cases hlt : k < s.size
    · have hlt' : (k : Int) < (s.size : Int) := by omega
      have c0 : (0 : Int) ≤ (s[k].toNat : Int) := by omega
      have c1 : (s[k].toNat : Int) ≤ 255 := by have := s[k].toNat_lt; omega
      have q1 : IntKind.u8.wrap ((s[k].toNat : Int) / 16) = (s[k].toNat : Int) / 16 := wrap8 _ (by omega) (by omega)
      have q2 : IntKind.u8.wrap ((s[k].toNat : Int) % 16) = (s[k].toNat : Int) % 16 := wrap8 _ (by omega) (by omega)
      have q3 : (s[k].toNat : Int) / 16 < 16 := by omega
      have q4 : (s[k].toNat : Int) % 16 < 16 := by omega
      have q5 : 0 ≤ (s[k].toNat : Int) / 16 := by omega
      have q6 : 0 ≤ (s[k].toNat : Int) % 16 := by omega
      have q7 : (s[k].toNat : Int).tmod 16 = (s[k].toNat : Int) % 16 := Int.tmod_eq_emod_of_nonneg c0
      have d1 : ∀ h : ((s[k].toNat : Int) / 16).toNat < hexs.size, hexs[((s[k].toNat : Int) / 16).toNat]'h = hexDig (s[k].toNat / 16) := fun h => hex_get _ h
      have d2 : ∀ h : ((s[k].toNat : Int) % 16).toNat < hexs.size, hexs[((s[k].toNat : Int) % 16).toNat]'h = hexDig (s[k].toNat % 16) := fun h => hex_get _ h
      unfold hexs at d1 d2
      have hz := hb.size
      have hl2 := hexL_len (s.data.toList.take k)
      have hl3 : (s.data.toList.take k).length ≤ k := List.length_take_le _ _
      have HL : Hid ((hexL (s.data.toList.take k)).length ≤ 2 * k) := by show _ ≤ _; omega
      clear hl2 hl3
      go_wp2_with fail
      go_region_held3 (fun _ => True) (trivial) ((refine step_append_lies _ rfl _ _ 101 rfl w.heap.size 5 i0 (.int .u8 0) 1 1 Tryz.underlying101 hi hz0 hz1 hz2 rfl (by decide) _ _ _ rfl (by exact hown.alloc _) ⟨wr.heap.size, 0, none⟩ 2 2 (B8 (hexTwo s[k])) rfl rfl (by exact news_drew wr (B8 (hexTwo s[k])) 5) (B8_one _) (by decide) (by have := unhide HL; unfold maxLen; omega) (by have := unhide HL; omega) (by simp; omega) _ rfl ?_; intro g cap w1 hown1 hgrow1 hat1 hlt1))
      all_goals
        have R := hex_rel hlt hown hb hown1 hgrow1
        clear hown1 hgrow1 hown hb hat1 hlt1 d1 d2 q1 q2 q7
        go_wp2_with fail
        go_roundw
        case rel => exact ⟨k + 1, by omega, by go_num, R.1, R.2⟩
        case measure => simp [intOf]; omega
    · have hcv := conv_own (P := Tryz.prog) Tryz.underlying101 Tryz.underlying5 Tryz.underlying9 hown
      rw [take_all s k (by omega)] at hcv
      clear hown
      go_wp2_with fail
      go_ret
      exact ⟨rfl, hb⟩
end Go.Proofs.YtmmnoepcklfonaaGreatDoor

/- l01In, l03RuneOK: what the specification answers. -/
namespace Go.Proofs.YtmmnoepcklfonaaGreatDoor
open Go.ChangeShapes Go.WideShapes Go.ChangeAt Go.RowKit
set_option linter.unusedVariables false
theorem rune_parts (n : Int) : runeB n = (inB n 0 1114111 && !(inB n 55296 57343) && decide (32 ≤ n) && (n != 127)) := by
  unfold runeB inB; rw [Bool.eq_iff_iff]; simp; omega
set_option maxHeartbeats 400000 in
set_option maxRecDepth 100000 in
theorem sin (n a b : Int) (w : World) : Calls Tryz.prog 38 #[.int .i64 n, .int .i64 a, .int .i64 b] w fun e w' => e = .returned (.bool (inB n a b)) ∧ w' = w := by
  by_cases h : a ≤ n
  · by_cases h2 : n ≤ b
    · go_enter Tryz.func38, Tryz.ntmps38
      go_wp2_with fail
      go_ret
      exact ⟨ret_bool (b_true ⟨h, h2⟩), rfl⟩
    · go_enter Tryz.func38, Tryz.ntmps38
      go_wp2_with fail
      go_ret
      exact ⟨ret_bool (b_false (by omega)), rfl⟩
  · go_enter Tryz.func38, Tryz.ntmps38
    go_wp2_with fail
    go_ret
    exact ⟨ret_bool (b_false (by omega)), rfl⟩
set_option maxHeartbeats 400000 in
set_option maxRecDepth 100000 in
theorem sruneok (n : Int) (w : World) : Calls Tryz.prog 81 #[.int .i64 n] w fun e w' => e = .returned (.bool (inB n 0 1114111 && !(inB n 55296 57343))) ∧ w' = w := by
  cases h : inB n 0 1114111 <;> cases h2 : inB n 55296 57343
  all_goals
    go_enter Tryz.func81, Tryz.ntmps81
    go_wp2_with (go_at_call 38; refine (sin _ _ _ _).mono ?_; rintro e w2 ⟨rfl, hw⟩; subst w2; first | rw [h] | rw [h2])
    go_ret
    exact ⟨rfl, rfl⟩
end Go.Proofs.YtmmnoepcklfonaaGreatDoor

/- Tokens: what the specification answers. -/
namespace Go.Proofs.YtmmnoepcklfonaaGreatDoor
open Go.ChangeShapes Go.WideShapes Go.ChangeAt Go.RowKit
set_option linter.unusedVariables false
set_option maxHeartbeats 4000000 in
set_option maxRecDepth 100000 in
theorem sdig_m1 (w : World) : Calls Tryz.prog 78 #[.int .i64 (-1)] w fun e w' => e = .returned (.string (zt (-1))) ∧ Below w.heap.size w w' := by
  obtain ⟨R, hR⟩ : ∃ R, R = zt (-1) := ⟨_, rfl⟩
  obtain ⟨D, hD⟩ : ∃ D, D = digS 1 := ⟨_, rfl⟩
  have HV : Hid (R = ⟨#[45]⟩ ++ D) := by show _ = _; rw [hR, hD]; exact zt_one
  have hz : D.size ≤ 4 := by rw [hD]; exact digS_size 1 (by decide)
  rw [← hR]
  have HD := hide hD
  clear hR hD
  go_enter Tryz.func78, Tryz.ntmps78
  go_wp2_with (go_at_call 78; refine (sdig 1 (by decide) _).mono ?_; rintro e w2 ⟨rfl, hb2⟩; rw [← unhide HD])
  go_ret
  rw [unhide HV]
  exact ⟨rfl, hb2⟩
theorem sdigZ (n : Int) (h0 : -1 ≤ n) (h1 : n ≤ 9999) (w : World) : Calls Tryz.prog 78 #[.int .i64 n] w fun e w' => e = .returned (.string (zt n)) ∧ Below w.heap.size w w' := by
  by_cases h : n = -1
  · subst h; exact sdig_m1 w
  · obtain ⟨k, rfl⟩ : ∃ k : Nat, n = (k : Int) := ⟨n.toNat, by omega⟩
    rw [zt_pos (by omega)]
    exact sdig k (by omega) w
set_option maxHeartbeats 4000000 in
set_option maxRecDepth 100000 in
theorem splain (c : Int) (win : ByteArray) (n : Int) (HT : Hid (tokB c win n = true)) (R : ByteArray) (HR : Hid (R = hdT c win n)) (w : World) :
    Calls Tryz.prog 64 #[.int .i64 c, .string win, .int .i64 n] w fun e w' => e = .returned (.string R) ∧ Below w.heap.size w w' := by
  obtain ⟨t0, t1, t2, t3, t4⟩ := tok_parts (unhide HT)
  have HCB : Hid (-1 ≤ c ∧ c ≤ 9999) := by constructor <;> omega
  have HNB : Hid (-1 ≤ n ∧ n ≤ 9999) := by constructor <;> omega
  obtain ⟨C, hC⟩ : ∃ C, C = zt c := ⟨_, rfl⟩
  obtain ⟨N, hN⟩ : ∃ N, N = zt n := ⟨_, rfl⟩
  have z1 : C.size ≤ 5 := by rw [hC]; exact zt_size (by omega) (by omega)
  have z2 : N.size ≤ 5 := by rw [hN]; exact zt_size (by omega) (by omega)
  obtain ⟨U1, hU1⟩ : ∃ U, U = (⟨#[116, 111, 107, 101, 110, 32]⟩ : ByteArray) ++ C := ⟨_, rfl⟩
  obtain ⟨U2, hU2⟩ : ∃ U, U = U1 ++ (⟨#[32]⟩ : ByteArray) := ⟨_, rfl⟩
  obtain ⟨U3, hU3⟩ : ∃ U, U = U2 ++ win := ⟨_, rfl⟩
  obtain ⟨U4, hU4⟩ : ∃ U, U = U3 ++ (⟨#[32]⟩ : ByteArray) := ⟨_, rfl⟩
  have HV : Hid (R = U4 ++ N) := by show _ = _; rw [unhide HR, ← hdT_spec, hU4, hU3, hU2, hU1, hC, hN]; rfl
  have e6 : (⟨#[116, 111, 107, 101, 110, 32]⟩ : ByteArray).size = 6 := rfl
  have e1 : (⟨#[32]⟩ : ByteArray).size = 1 := rfl
  have y1 : U1.size ≤ 11 := by rw [hU1, ByteArray.size_append]; omega
  have y2 : U2.size ≤ 12 := by rw [hU2, ByteArray.size_append]; omega
  have y3 : U3.size ≤ 24 := by rw [hU3, ByteArray.size_append]; omega
  have y4 : U4.size ≤ 25 := by rw [hU4, ByteArray.size_append]; omega
  have HC := hide hC
  have HN := hide hN
  have H1 := hide hU1
  have H2 := hide hU2
  have H3 := hide hU3
  have H4 := hide hU4
  have B0 := hide (Below.refl w.heap.size w)
  clear hC hN hU1 hU2 hU3 hU4 e6 e1 HR
  go_enter Tryz.func64, Tryz.ntmps64
  go_wp2_with fail
  refine (sdigZ c (unhide HCB).1 (unhide HCB).2 _).mono ?_
  rintro e w2 ⟨rfl, hb2⟩
  rw [← unhide HC]
  have B2 := hide ((unhide B0).trans (hb2.mono (unhide B0).size))
  clear hb2
  go_wp2_with fail
  refine (sdigZ n (unhide HNB).1 (unhide HNB).2 _).mono ?_
  rintro e w3 ⟨rfl, hb3⟩
  rw [← unhide HN]
  have B3 := hide ((unhide B2).trans (hb3.mono (unhide B2).size))
  clear hb3
  go_wp2_with fail
  go_ret
  rw [unhide HV, unhide H4, unhide H3, unhide H2, unhide H1]
  exact ⟨rfl, unhide B3⟩
set_option maxHeartbeats 4000000 in
set_option maxRecDepth 100000 in
theorem sask (c : Int) (win : ByteArray) (n : Int) (HS : Hid (win.size ≤ 1048576)) (R : Bool) (HR : Hid (R = tokB c win n)) (w : World) :
    Calls Tryz.prog 35 #[.int .i64 c, .string win, .int .i64 n] w fun e w' => e = .returned (.bool R) ∧ w' = w := by
  obtain ⟨A, hA⟩ : ∃ A, A = inB c 0 200 := ⟨_, rfl⟩
  obtain ⟨B, hB⟩ : ∃ B, B = nameB win := ⟨_, rfl⟩
  obtain ⟨C, hC⟩ : ∃ C, C = inB n (-1) 60 := ⟨_, rfl⟩
  have HRR : Hid (R = (A && ((decide (win.size ≤ 12) && B) && C))) := by show _ = _; rw [unhide HR, hA, hB, hC]; rfl
  have HA := hide hA
  have HB := hide hB
  have HC := hide hC
  clear hA hB hC HR
  by_cases hl : win.size ≤ 12
  · have hl' : (win.size : Int) ≤ 12 := by omega
    have HL : Hid (decide (win.size ≤ 12) = true) := by show _ = _; simp [hl]
    clear hl
    cases A
    · skip
      go_enter Tryz.func35, Tryz.ntmps35
      go_wp2_with fail
      refine (sin c 0 200 _).mono ?_
      rintro e w2 ⟨rfl, hw⟩
      subst w2
      rw [← unhide HA]
      go_wp2_with fail
      go_ret
      exact ⟨ret_bool (by rw [unhide HRR, unhide HL]; first | rfl | (cases C <;> rfl)), rfl⟩
    cases B
    · skip
      go_enter Tryz.func35, Tryz.ntmps35
      go_wp2_with fail
      refine (sin c 0 200 _).mono ?_
      rintro e w2 ⟨rfl, hw⟩
      subst w2
      rw [← unhide HA]
      go_wp2_with fail
      refine (name5 win (unhide HS) _).mono ?_
      rintro e w2 ⟨rfl, hw⟩
      subst w2
      rw [← unhide HB]
      go_wp2_with fail
      go_ret
      exact ⟨ret_bool (by rw [unhide HRR, unhide HL]; first | rfl | (cases C <;> rfl)), rfl⟩
    · skip
      go_enter Tryz.func35, Tryz.ntmps35
      go_wp2_with fail
      refine (sin c 0 200 _).mono ?_
      rintro e w2 ⟨rfl, hw⟩
      subst w2
      rw [← unhide HA]
      go_wp2_with fail
      refine (name5 win (unhide HS) _).mono ?_
      rintro e w2 ⟨rfl, hw⟩
      subst w2
      rw [← unhide HB]
      go_wp2_with fail
      refine (sin n (-1) 60 _).mono ?_
      rintro e w2 ⟨rfl, hw⟩
      subst w2
      rw [← unhide HC]
      go_wp2_with fail
      go_ret
      exact ⟨ret_bool (by rw [unhide HRR, unhide HL]; first | rfl | (cases C <;> rfl)), rfl⟩
  · have hl' : ¬ (win.size : Int) ≤ 12 := by omega
    have HL : Hid (decide (win.size ≤ 12) = false) := by show _ = _; simp [hl]
    clear hl
    cases A
    all_goals
      go_enter Tryz.func35, Tryz.ntmps35
      go_wp2_with fail
      refine (sin c 0 200 _).mono ?_
      rintro e w2 ⟨rfl, hw⟩
      subst w2
      rw [← unhide HA]
      go_wp2_with fail
      go_ret
      exact ⟨ret_bool (by rw [unhide HRR, unhide HL]; first | rfl | (cases C <;> rfl)), rfl⟩
set_option maxHeartbeats 4000000 in
set_option maxRecDepth 100000 in
theorem smark12 (c : Int) (win : ByteArray) (n : Int) (HT : Hid (tokB c win n = true)) (key : ByteArray) (HKS : Hid (key.size ≤ 65536)) (M : ByteArray) (HM : Hid (M = mkT key c win n)) (w : World) :
    Calls Tryz.prog 65 #[.string key, .int .i64 c, .string win, .int .i64 n] w fun e w' => e = .returned (.string M) ∧ Below w.heap.size w w' := by
  have B0 := hide (Below.refl w.heap.size w)
  obtain ⟨R, hR⟩ : ∃ R, R = hdT c win n := ⟨_, rfl⟩
  have HR := hide hR
  have HRS : Hid (R.size ≤ 60) := by rw [hR]; exact hdT_size (unhide HT)
  obtain ⟨H, hH⟩ : ∃ H, H = hmacB key R := ⟨_, rfl⟩
  have HH := hide hH
  have HHS : Hid (H.size = 32) := by rw [hH]; exact hash_size _
  obtain ⟨D, hD⟩ : ∃ D, D = hexT H := ⟨_, rfl⟩
  have hds : D.size = 64 := by
    rw [hD]
    show (hexL H.data.toList).toArray.size = 64
    rw [List.size_toArray, hexL_len, show H.data.toList.length = H.size from Array.length_toList, unhide HHS]
  have hd32 : 32 ≤ D.size := by omega
  have HDD : Hid (D = ⟨(hexL H.data.toList).toArray⟩) := hD
  have HMM : Hid (M = D.extract 0 32) := by show _ = _; rw [unhide HM, hD, hH, hR]; rfl
  clear hR hH hD HM hds
  go_enter Tryz.func65, Tryz.ntmps65
  go_wp2_with (first
    | (go_at_call 64; refine (splain c win n HT R HR _).mono ?_; rintro e w2 ⟨rfl, hb2⟩; have B2 := hide ((unhide B0).trans (hb2.mono (unhide B0).size)); clear hb2)
    | (go_at_call 80; have B2' := B2; refine (shmac38 key R (unhide HKS) (by have := unhide HRS; omega) _).mono ?_; rintro e w3 ⟨rfl, hb3⟩; rw [← unhide HH]; have B3 := hide ((unhide B2).trans (hb3.mono (unhide B2).size)); clear hb3)
    | (go_at_call 79; have B3' := B3; refine (hex12 H (by have := unhide HHS; omega) _).mono ?_; rintro e w4 ⟨rfl, hb4⟩; rw [← unhide HDD]; have B4 := hide ((unhide B3).trans (hb4.mono (unhide B3).size)); clear hb4))
  go_ret
  rw [unhide HMM]
  exact ⟨rfl, unhide B4⟩
end Go.Proofs.YtmmnoepcklfonaaGreatDoor

/- IssueToken: what the specification answers. -/
namespace Go.Proofs.YtmmnoepcklfonaaGreatDoor
open Go.ChangeShapes Go.WideShapes Go.ChangeAt Go.RowKit
set_option linter.unusedVariables false
set_option maxHeartbeats 4000000 in
set_option maxRecDepth 100000 in
theorem sissue (c : Int) (win : ByteArray) (n : Int) (HT : Hid (tokB c win n = true)) (key : ByteArray) (HKS : Hid (key.size ≤ 65536)) (S : ByteArray) (HS : Hid (S = issT key c win n)) (w : World) :
    Calls Tryz.prog 37 #[.string key, .int .i64 c, .string win, .int .i64 n] w fun e w' => e = .returned (.string S) ∧ Below w.heap.size w w' := by
  have B0 := hide (Below.refl w.heap.size w)
  obtain ⟨R, hR⟩ : ∃ R, R = hdT c win n := ⟨_, rfl⟩
  have HR := hide hR
  have z1 : R.size ≤ 60 := by rw [hR]; exact hdT_size (unhide HT)
  obtain ⟨M, hM⟩ : ∃ M, M = mkT key c win n := ⟨_, rfl⟩
  have HM := hide hM
  have z2 : M.size ≤ 32 := by rw [hM, mkT_size]; exact Nat.le_refl _
  obtain ⟨U, hU⟩ : ∃ U, U = R ++ (⟨#[32]⟩ : ByteArray) := ⟨_, rfl⟩
  have z3 : U.size ≤ 61 := by rw [hU, ByteArray.size_append]; have e : (⟨#[32]⟩ : ByteArray).size = 1 := rfl; omega
  have HV : Hid (S = U ++ M) := by show _ = _; rw [unhide HS, issT_spec, hU, hR, hM]
  have HU := hide hU
  clear hR hM hU HS
  go_enter Tryz.func37, Tryz.ntmps37
  go_wp2_with (first
    | (go_at_call 64; refine (splain c win n HT R HR _).mono ?_; rintro e w2 ⟨rfl, hb2⟩; have B2 := hide ((unhide B0).trans (hb2.mono (unhide B0).size)); clear hb2)
    | (go_at_call 65; have B2' := B2; refine (smark12 c win n HT key HKS M HM _).mono ?_; rintro e w3 ⟨rfl, hb3⟩; have B3 := hide ((unhide B2).trans (hb3.mono (unhide B2).size)); clear hb3))
  go_ret
  rw [unhide HV, unhide HU]
  exact ⟨rfl, unhide B3⟩
end Go.Proofs.YtmmnoepcklfonaaGreatDoor
