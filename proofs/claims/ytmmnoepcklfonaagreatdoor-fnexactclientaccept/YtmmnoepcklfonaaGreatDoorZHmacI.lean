/- Hmac: what the program answers. -/
import Derived.Test.YtmmnoepcklfonaaGreatDoorZG10
namespace Go.Proofs.YtmmnoepcklfonaaGreatDoor
open Go.ChangeShapes Go.WideShapes Go.ChangeAt Go.RowKit
theorem Tryz.infH5 : (Tryz.prog.info? 5).map (fun i => (i.zero, i.size, i.bytes)) = some (some (.int .u8 0), 1, 1) := by kernel_rfl
theorem Tryz.sizeH : (Tryz.prog.info? 5).map (·.size) = some 1 := by kernel_rfl
theorem xor_at (k : List UInt8) (m : UInt8) (j : Nat) (hj : j < (keyZ k).length) : (keyX k m)[j]? = some ((keyZ k)[j] ^^^ m) := by
  unfold keyX; rw [List.getElem?_map, List.getElem?_eq_getElem hj]; rfl
def xcell (k : List UInt8) (m : UInt8) (j : Nat) : Value := .int .u8 (((keyX k m).getD j 0).toNat : Int)
theorem xcell_at (k : List UInt8) (m : UInt8) (j : Nat) (hj : j < (keyZ k).length) : xcell k m j = .int .u8 (((keyZ k)[j] ^^^ m).toNat : Int) := by
  unfold xcell; rw [List.getD_eq_getElem?_getD, xor_at k m j hj]; rfl
theorem xcells (k : List UInt8) (m : UInt8) (h : k.length ≤ 64) : (List.range 64).map (xcell k m) = B8 (keyX k m) := by
  apply List.ext_getElem?
  intro j
  by_cases hj : j < 64
  · rw [List.getElem?_map, List.getElem?_range hj]
    have hz : j < (keyZ k).length := by rw [keyZ_len k h]; exact hj
    have e : (B8 (keyX k m))[j]? = some (.int .u8 (((keyZ k)[j] ^^^ m).toNat : Int)) := by
      unfold B8; rw [List.getElem?_map, xor_at k m j hz]; rfl
    rw [e, ← xcell_at k m j hz]; rfl
  · rw [List.getElem?_eq_none (by simp; omega), List.getElem?_eq_none (by rw [B8_len, keyX_len k m h]; omega)]
set_option maxHeartbeats 400000 in
set_option maxRecDepth 100000 in
theorem ikey (key : ByteArray) (m : UInt8) (hk : key.size ≤ 64) (w : World) :
    Calls Tryz.prog 105 #[.string key, .int .u8 (m.toNat : Int)] w fun e w' => e = .returned (.slice (some ⟨w.heap.size, 0, none⟩) 64 64) ∧ ArrAt w' w.heap.size 5 (B8 (keyX key.data.toList m)) ∧ Below w.heap.size w w' := by
  obtain ⟨i0, hi, hz0, hz1, hz2⟩ := info_parts Tryz.infH5
  obtain ⟨l, hl⟩ : ∃ l, l = key.data.toList := ⟨_, rfl⟩
  have hll : l.length = key.size := by rw [hl]; exact list_size key
  have HL := hide hl
  rw [← hl]
  have HZL := hide (keyZ_len l (by omega))
  have HXC := hide (xcells l m (by omega))
  have HZ : Hid (B8 l ++ (B8 (List.replicate 64 0)).drop key.size = B8 (keyZ l)) := by
    show _ = _; unfold keyZ; rw [B8_app, B8_rep, B8_rep, List.drop_replicate, ← hll]
  clear hl
  have HK := hide hk
  go_enter Tryz.func105, Tryz.ntmps105
  go_wp2_with (first | (at_make; refine wpList_make_full _ rfl _ _ 101 rfl w.heap.size 5 i0 (.int .u8 0) 1 Tryz.underlying101 hi hz0 hz1 .i64 .i64 _ _ 64 rfl rfl rfl rfl (by rw [hz2]; omega) (by unfold maxLen; omega) (Nat.le_refl _) ?_; intro w1 hown hgrow; obtain ⟨HA, HB⟩ := pad_stage1 hown hgrow; clear hown hgrow) | (refine wpList_copy_text rfl _ _ 101 9 rfl 5 Tryz.underlying101 Tryz.sizeH w.heap.size 64 64 key rfl rfl (B8 (List.replicate 64 0)) 5 (unhide HA) hk (by rw [B8_len, List.length_replicate]; exact hk) ?_; intro w2 ha2 hb2; rw [← unhide HL, unhide HZ] at ha2; have HA2 := hide ha2; have HB2 := hide ((unhide HB).trans hb2); clear ha2 hb2 HA HB))
  go_loopw [13] (fun i wr => ∃ j : Nat, j ≤ 64 ∧ i = .int .i64 j ∧ Hid (ArrAt wr w.heap.size 5 (markV (B8 (keyZ l)) (xcell l m) j)) ∧ Hid (Below w.heap.size w wr)) (fun i _ => 64 - (intOf i).toNat)
  case atStart => exact ⟨0, by omega, rfl, by rw [markV_zero]; exact HA2, HB2⟩
  case round =>
    clear HA2 HB2
    obtain ⟨j, hj, rfl, HA, HB⟩ := hrel
    by_cases hlt : j < 64
    · have hz : j < (keyZ l).length := by rw [unhide HZL]; exact hlt
      have hc1 : wr.cell? ⟨w.heap.size, j, none⟩ = some (.int .u8 ((keyZ l)[j].toNat : Int)) := by rw [(unhide HA).cell, markV_at]; simp [B8, List.getElem?_eq_getElem hz]
      have hf1 := (unhide HA).frozen j
      have hx := u8_xor (keyZ l)[j] m
      have RA : Hid (ArrAt (wr.setCell ⟨w.heap.size, j, none⟩ (.int .u8 (((keyZ l)[j] ^^^ m).toNat : Int))) w.heap.size 5 (markV (B8 (keyZ l)) (xcell l m) (j + 1))) := by
        rw [← markV_set _ _ j (by rw [B8_len]; exact hz), xcell_at l m j hz]; exact (unhide HA).set j _
      have RB := hide ((unhide HB).setCell (p := ⟨w.heap.size, j, none⟩) (Nat.le_refl _) (.int .u8 (((keyZ l)[j] ^^^ m).toNat : Int)))
      have hlt' : (j : Int) < 64 := by omega
      have hlt0 : (0 : Int) ≤ (j : Int) := by omega
      obtain ⟨y, hy⟩ : ∃ y : Int, y = (((keyZ l)[j] ^^^ m).toNat : Int) := ⟨_, rfl⟩
      obtain ⟨z, hzz⟩ : ∃ z : Int, z = ((keyZ l)[j].toNat : Int) := ⟨_, rfl⟩
      rw [← hzz] at hc1 hx
      rw [← hy] at hx RA RB
      clear HA HB hz hy hzz
      go_wp2_with fail
      go_roundw
      case rel => exact ⟨j + 1, by omega, by go_num, RA, RB⟩
      case measure => simp [intOf]; omega
    · have ej : j = 64 := by omega
      rw [ej, markV_all _ _ 64 (by rw [B8_len]; exact (unhide HZL).symm), unhide HXC] at HA
      clear ej
      go_wp2_with fail
      go_ret
      exact ⟨rfl, unhide HA, unhide HB⟩
theorem ikey54 (key : ByteArray) (hk : key.size ≤ 64) (w : World) :
    Calls Tryz.prog 105 #[.string key, .int .u8 54] w fun e w' => e = .returned (.slice (some ⟨w.heap.size, 0, none⟩) 64 64) ∧ ArrAt w' w.heap.size 5 (B8 (keyX key.data.toList 54)) ∧ Below w.heap.size w w' := by
  have h := ikey key 54 hk w
  have e : ((((54 : UInt8).toNat : Nat)) : Int) = 54 := by decide
  rw [e] at h
  exact h
theorem ikey92 (key : ByteArray) (hk : key.size ≤ 64) (w : World) :
    Calls Tryz.prog 105 #[.string key, .int .u8 92] w fun e w' => e = .returned (.slice (some ⟨w.heap.size, 0, none⟩) 64 64) ∧ ArrAt w' w.heap.size 5 (B8 (keyX key.data.toList 92)) ∧ Below w.heap.size w w' := by
  have h := ikey key 92 hk w
  have e : ((((92 : UInt8).toNat : Nat)) : Int) = 92 := by decide
  rw [e] at h
  exact h
set_option maxHeartbeats 800000 in
set_option maxRecDepth 100000 in
theorem ihmac (key msg : ByteArray) (hks : key.size ≤ 1048576) (hms : msg.size ≤ 1048576) (w : World) (hk : KIn w) :
    Calls Tryz.prog 97 #[.string key, .string msg] w fun e w' => e = .returned (.tuple #[.string (hmS key msg), .int .i64 (hmC key msg)]) ∧ Below w.heap.size w w' := by
  obtain ⟨i0, hi, hz0, hz1, hz2⟩ := info_parts Tryz.infH5
  have HK := hide hk
  clear hk
  by_cases h1 : 65536 < key.size
  · have HV := hide (hm_long (msg := msg) (.inl h1))
    go_enter Tryz.func97, Tryz.ntmps97
    go_wp2_with fail
    go_ret2
    rw [(unhide HV).1, (unhide HV).2]
    exact ⟨rfl, Below.refl _ _⟩
  by_cases h2 : 65536 < msg.size
  · have HV := hide (hm_long (key := key) (.inr h2))
    go_enter Tryz.func97, Tryz.ntmps97
    go_wp2_with fail
    go_ret2
    rw [(unhide HV).1, (unhide HV).2]
    exact ⟨rfl, Below.refl _ _⟩
  have HV := hide (hm_ok h1 h2)
  obtain ⟨I, hI⟩ : ∃ I, I = hmacIn key msg.data.toList := ⟨_, rfl⟩
  have HIS : Hid (I.size = 32) := by rw [hI]; exact hash_size _
  by_cases h64 : 64 < key.size
  · obtain ⟨K, hK⟩ : ∃ K, K = hashB (shaR key.data.toList) := ⟨_, rfl⟩
    have hKK : hmacK key = K := by unfold hmacK; rw [if_pos h64, hK]
    have HKS : Hid (K.size ≤ 64) := by show _ ≤ _; rw [hK, hash_size]; decide
    have HI : Hid (I = hashB (shaR (keyX K.data.toList 54 ++ msg.data.toList))) := by show _ = _; rw [hI]; unfold hmacIn; rw [hKK]
    have HVB : hmacB key msg = hashB (shaR (keyX K.data.toList 92 ++ I.data.toList)) := by unfold hmacB; rw [hKK, hI]
    rw [HVB] at HV
    have HKH := hide hK
    obtain ⟨wb, cb, hcv, hrb, hbb⟩ := to_bytes w key
    have HRB := hide hrb
    have HBB := hide hbb
    have hkl := list_size key
    have HKL := hide hkl
    clear hrb hbb hI hK hKK HVB hkl
    go_enter Tryz.func97, Tryz.ntmps97
    go_wp2_with fail
    have h20 := hash20 (some ⟨w.heap.size, 0, none⟩) cb key.data.toList (by rw [unhide HKL]; omega) wb (unhide HRB) ((unhide HK).below (unhide HBB) (unhide HK).pos)
    rw [unhide HKL] at h20
    refine h20.mono ?_
    clear h20
    rintro e w1 ⟨rfl, hb1⟩
    rw [← unhide HKH]
    have B1 := hide ((unhide HBB).trans (hb1.mono (unhide HBB).size))
    clear hb1 hcv
    go_wp2_with fail
    refine (ikey54 K (unhide HKS) _).mono ?_
    rintro e w2 ⟨rfl, ha2, hb2⟩
    have ho2 := arr_own8 ha2 (keyX_len _ _ (by rw [list_size]; exact unhide HKS)) (by decide)
    have B2 := hide ((unhide B1).trans (hb2.mono (unhide B1).size))
    have S2 := hide hb2.size
    have HO2 := hide ho2
    clear ha2 hb2 ho2
    go_wp2_with (refine Go.Lib.wpList_append_own_string _ rfl (.tmp 22) (.tmp 23) 101 9 rfl w1.heap.size 5 i0 Tryz.underlying101 Tryz.underlying9 hi hz0 hz1 hz2 _ _ _ rfl (unhide HO2) msg rfl (by rw [keyX_len _ _ (by rw [list_size]; exact unhide HKS)]; unfold maxLen; omega) (by rw [keyX_len _ _ (by rw [list_size]; exact unhide HKS)]; omega) (unhide S2) ?_; intro v3 w3 ho3 hg3 _; have ho3' := own_app (l := keyX K.data.toList 54) (m := msg.data.toList) ho3 (list_size msg); obtain ⟨L3, hL3⟩ : ∃ L, L = keyX K.data.toList 54 ++ msg.data.toList := ⟨_, rfl⟩; rw [← hL3] at ho3'; have HL3 := hide hL3; clear hL3; have B3 := hide ((unhide B2).grown hg3 (unhide B2).size (fun k hk => Nat.le_trans (unhide B1).size ((unhide HO2).lt k hk).1)); obtain ⟨a3, c3, rfl, hr3⟩ := own_rowV ho3'; have HR3 := hide (rowV_8 hr3); clear ho3 hg3 ho3' hr3 HO2)
    refine (hash20 a3 c3 L3 (by rw [unhide HL3, List.length_append, keyX_len _ _ (by rw [list_size]; exact unhide HKS), list_size]; omega) _ (unhide HR3) ((unhide HK).below (unhide B3) (unhide HK).pos)).mono ?_
    rintro e w4 ⟨rfl, hb4⟩
    rw [show hashB (shaR L3) = I from by rw [unhide HL3]; exact (unhide HI).symm]
    have B4 := hide ((unhide B3).trans (hb4.mono (unhide B3).size))
    clear hb4 HR3
    go_wp2_with fail
    refine (ikey92 K (unhide HKS) _).mono ?_
    rintro e w5 ⟨rfl, ha5, hb5⟩
    have ho5 := arr_own8 ha5 (keyX_len _ _ (by rw [list_size]; exact unhide HKS)) (by decide)
    have B5 := hide ((unhide B4).trans (hb5.mono (unhide B4).size))
    have S5 := hide hb5.size
    have HO5 := hide ho5
    clear ha5 hb5 ho5
    go_wp2_with (refine Go.Lib.wpList_append_own_string _ rfl (.tmp 27) (.tmp 28) 101 9 rfl w4.heap.size 5 i0 Tryz.underlying101 Tryz.underlying9 hi hz0 hz1 hz2 _ _ _ rfl (unhide HO5) I rfl (by rw [keyX_len _ _ (by rw [list_size]; exact unhide HKS), unhide HIS]; decide) (by rw [keyX_len _ _ (by rw [list_size]; exact unhide HKS), unhide HIS]; decide) (unhide S5) ?_; intro v6 w6 ho6 hg6 _; have ho6' := own_app (l := keyX K.data.toList 92) (m := I.data.toList) ho6 (list_size I); obtain ⟨L6, hL6⟩ : ∃ L, L = keyX K.data.toList 92 ++ I.data.toList := ⟨_, rfl⟩; rw [← hL6] at ho6'; have HL6 := hide hL6; clear hL6; have B6 := hide ((unhide B5).grown hg6 (unhide B5).size (fun k hk => Nat.le_trans (unhide B4).size ((unhide HO5).lt k hk).1)); obtain ⟨a6, c6, rfl, hr6⟩ := own_rowV ho6'; have HR6 := hide (rowV_8 hr6); clear ho6 hg6 ho6' hr6 HO5)
    refine (hash20 a6 c6 L6 (by rw [unhide HL6, List.length_append, keyX_len _ _ (by rw [list_size]; exact unhide HKS), list_size, unhide HIS]; decide) _ (unhide HR6) ((unhide HK).below (unhide B6) (unhide HK).pos)).mono ?_
    rintro e w7 ⟨rfl, hb7⟩
    have B7 := hide ((unhide B6).trans (hb7.mono (unhide B6).size))
    clear hb7 HR6
    go_wp2_with fail
    go_ret2
    rw [(unhide HV).1, (unhide HV).2, ← unhide HL6]
    exact ⟨rfl, unhide B7⟩
  · obtain ⟨K, hK⟩ : ∃ K, K = key := ⟨_, rfl⟩
    have hKK : hmacK key = K := by unfold hmacK; rw [if_neg h64, hK]
    have HKS : Hid (K.size ≤ 64) := by show _ ≤ _; rw [hK]; omega
    have HI : Hid (I = hashB (shaR (keyX K.data.toList 54 ++ msg.data.toList))) := by show _ = _; rw [hI]; unfold hmacIn; rw [hKK]
    have HVB : hmacB key msg = hashB (shaR (keyX K.data.toList 92 ++ I.data.toList)) := by unfold hmacB; rw [hKK, hI]
    rw [HVB] at HV
    have B1 := hide (Below.refl w.heap.size w)
    clear hI hKK HVB
    subst hK
    go_enter Tryz.func97, Tryz.ntmps97
    go_wp2_with fail
    refine (ikey54 K (unhide HKS) _).mono ?_
    rintro e w2 ⟨rfl, ha2, hb2⟩
    have ho2 := arr_own8 ha2 (keyX_len _ _ (by rw [list_size]; exact unhide HKS)) (by decide)
    have B2 := hide ((unhide B1).trans (hb2.mono (unhide B1).size))
    have S2 := hide hb2.size
    have HO2 := hide ho2
    clear ha2 hb2 ho2
    go_wp2_with (refine Go.Lib.wpList_append_own_string _ rfl (.tmp 22) (.tmp 23) 101 9 rfl w.heap.size 5 i0 Tryz.underlying101 Tryz.underlying9 hi hz0 hz1 hz2 _ _ _ rfl (unhide HO2) msg rfl (by rw [keyX_len _ _ (by rw [list_size]; exact unhide HKS)]; unfold maxLen; omega) (by rw [keyX_len _ _ (by rw [list_size]; exact unhide HKS)]; omega) (unhide S2) ?_; intro v3 w3 ho3 hg3 _; have ho3' := own_app (l := keyX K.data.toList 54) (m := msg.data.toList) ho3 (list_size msg); obtain ⟨L3, hL3⟩ : ∃ L, L = keyX K.data.toList 54 ++ msg.data.toList := ⟨_, rfl⟩; rw [← hL3] at ho3'; have HL3 := hide hL3; clear hL3; have B3 := hide ((unhide B2).grown hg3 (unhide B2).size (fun k hk => Nat.le_trans (unhide B1).size ((unhide HO2).lt k hk).1)); obtain ⟨a3, c3, rfl, hr3⟩ := own_rowV ho3'; have HR3 := hide (rowV_8 hr3); clear ho3 hg3 ho3' hr3 HO2)
    refine (hash20 a3 c3 L3 (by rw [unhide HL3, List.length_append, keyX_len _ _ (by rw [list_size]; exact unhide HKS), list_size]; omega) _ (unhide HR3) ((unhide HK).below (unhide B3) (unhide HK).pos)).mono ?_
    rintro e w4 ⟨rfl, hb4⟩
    rw [show hashB (shaR L3) = I from by rw [unhide HL3]; exact (unhide HI).symm]
    have B4 := hide ((unhide B3).trans (hb4.mono (unhide B3).size))
    clear hb4 HR3
    go_wp2_with fail
    refine (ikey92 K (unhide HKS) _).mono ?_
    rintro e w5 ⟨rfl, ha5, hb5⟩
    have ho5 := arr_own8 ha5 (keyX_len _ _ (by rw [list_size]; exact unhide HKS)) (by decide)
    have B5 := hide ((unhide B4).trans (hb5.mono (unhide B4).size))
    have S5 := hide hb5.size
    have HO5 := hide ho5
    clear ha5 hb5 ho5
    go_wp2_with (refine Go.Lib.wpList_append_own_string _ rfl (.tmp 27) (.tmp 28) 101 9 rfl w4.heap.size 5 i0 Tryz.underlying101 Tryz.underlying9 hi hz0 hz1 hz2 _ _ _ rfl (unhide HO5) I rfl (by rw [keyX_len _ _ (by rw [list_size]; exact unhide HKS), unhide HIS]; decide) (by rw [keyX_len _ _ (by rw [list_size]; exact unhide HKS), unhide HIS]; decide) (unhide S5) ?_; intro v6 w6 ho6 hg6 _; have ho6' := own_app (l := keyX K.data.toList 92) (m := I.data.toList) ho6 (list_size I); obtain ⟨L6, hL6⟩ : ∃ L, L = keyX K.data.toList 92 ++ I.data.toList := ⟨_, rfl⟩; rw [← hL6] at ho6'; have HL6 := hide hL6; clear hL6; have B6 := hide ((unhide B5).grown hg6 (unhide B5).size (fun k hk => Nat.le_trans (unhide B4).size ((unhide HO5).lt k hk).1)); obtain ⟨a6, c6, rfl, hr6⟩ := own_rowV ho6'; have HR6 := hide (rowV_8 hr6); clear ho6 hg6 ho6' hr6 HO5)
    refine (hash20 a6 c6 L6 (by rw [unhide HL6, List.length_append, keyX_len _ _ (by rw [list_size]; exact unhide HKS), list_size, unhide HIS]; decide) _ (unhide HR6) ((unhide HK).below (unhide B6) (unhide HK).pos)).mono ?_
    rintro e w7 ⟨rfl, hb7⟩
    have B7 := hide ((unhide B6).trans (hb7.mono (unhide B6).size))
    clear hb7 HR6
    go_wp2_with fail
    go_ret2
    rw [(unhide HV).1, (unhide HV).2, ← unhide HL6]
    exact ⟨rfl, unhide B7⟩
end Go.Proofs.YtmmnoepcklfonaaGreatDoor
