/- Hmac: what the specification answers. -/
import Derived.Test.YtmmnoepcklfonaaGreatDoorZG10
namespace Go.Proofs.YtmmnoepcklfonaaGreatDoor
open Go.ChangeShapes Go.WideShapes Go.ChangeAt Go.RowKit
theorem Tryz.infK5 : (Tryz.prog.info? 5).map (fun i => (i.zero, i.size, i.bytes)) = some (some (.int .u8 0), 1, 1) := by kernel_rfl
theorem xor_atS (k : List UInt8) (m : UInt8) (j : Nat) (hj : j < (keyZ k).length) : (keyX k m)[j]? = some ((keyZ k)[j] ^^^ m) := by
  unfold keyX; rw [List.getElem?_map, List.getElem?_eq_getElem hj]; rfl
theorem keyZ_in (K : ByteArray) (j : Nat) (h : j < K.size) (hz : j < (keyZ K.data.toList).length) : (keyZ K.data.toList)[j] = K[j] := by
  have e : (keyZ K.data.toList)[j]? = some K[j] := by
    unfold keyZ; rw [List.getElem?_append_left (by rw [list_size]; exact h), List.getElem?_eq_getElem (by rw [list_size]; exact h)]; rfl
  rw [List.getElem?_eq_getElem hz] at e; exact Option.some.inj e
theorem keyZ_out (K : ByteArray) (j : Nat) (h : ¬ j < K.size) (hz : j < (keyZ K.data.toList).length) : (keyZ K.data.toList)[j] = 0 := by
  have hz' := hz
  have e : (keyZ K.data.toList)[j]? = some 0 := by
    unfold keyZ at hz' ⊢
    rw [List.length_append, List.length_replicate] at hz'
    rw [List.getElem?_append_right (by rw [list_size]; omega), List.getElem?_replicate, if_pos (by rw [list_size] at hz' ⊢; omega)]
  rw [List.getElem?_eq_getElem hz] at e; exact Option.some.inj e
theorem hmMake64a (w : World) : (Instr.makeSlice 101 (.int .i64 64) (.int .i64 64)).run Tryz.prog w = .ok (.slice (some ⟨w.heap.size, 0, none⟩) 64 64) (w.alloc (.cells (Array.replicate 64 (.int .u8 0)) 5)) := by kernel_rfl
theorem hmMake64 (w : World) : (Instr.makeSlice 101 (.int .i64 64) (.int .i64 64)).run Tryz.prog w = .ok (.slice (some ⟨w.heap.size, 0, none⟩) 64 64) (w.alloc (.cells (B8 (List.replicate 64 0)).toArray 5)) := by
  have e : (B8 (List.replicate 64 0)).toArray = Array.replicate 64 (.int .u8 0) := by kernel_rfl
  rw [e]
  exact hmMake64a w
theorem fill_start (k : List UInt8) (m : UInt8) (h : (keyX k m).length = 64) : fillV (.int .u8 0) (B8 (keyX k m)) 0 = B8 (List.replicate 64 0) := by
  unfold fillV; rw [B8_len, h, B8_rep]; simp
set_option maxHeartbeats 800000 in
set_option maxRecDepth 100000 in
theorem shmac38 (key msg : ByteArray) (hks : key.size ≤ 65536) (hms : msg.size ≤ 65536) (w : World) :
    Calls Tryz.prog 80 #[.string key, .string msg] w fun e w' => e = .returned (.string (hmacB key msg)) ∧ Below w.heap.size w w' := by
  obtain ⟨i0, hi, hz0, hz1, hz2⟩ := info_parts Tryz.infK5
  have hmk := hmMake64
  obtain ⟨I, hI⟩ : ∃ I, I = hmacIn key msg.data.toList := ⟨_, rfl⟩
  have HIS : Hid (I.size = 32) := by rw [hI]; exact hash_size _
  by_cases h64 : 64 < key.size
  · obtain ⟨K, hK⟩ : ∃ K, K = hashB (shaR key.data.toList) := ⟨_, rfl⟩
    have hKK : hmacK key = K := by unfold hmacK; rw [if_pos h64, hK]
    have HKS : Hid (K.size ≤ 64) := by show _ ≤ _; rw [hK, hash_size]; decide
    have HI : Hid (I = hashB (shaR (keyX K.data.toList 54 ++ msg.data.toList))) := by show _ = _; rw [hI]; unfold hmacIn; rw [hKK]
    have HV : Hid (hmacB key msg = hashB (shaR (keyX K.data.toList 92 ++ I.data.toList))) := by show _ = _; unfold hmacB; rw [hKK, hI]
    have HZL := hide (keyZ_len K.data.toList (by rw [list_size]; exact unhide HKS))
    have HX1 := hide (keyX_len K.data.toList 54 (by rw [list_size]; exact unhide HKS))
    have HX2 := hide (keyX_len K.data.toList 92 (by rw [list_size]; exact unhide HKS))
    have HKH := hide hK
    obtain ⟨wb, cb, hcv, hrb, hbb⟩ := to_bytes w key
    have HRB := hide hrb
    have HBB := hide hbb
    have HKL := hide (list_size key)
    clear hrb hbb hI hK hKK
    go_enter Tryz.func80, Tryz.ntmps80
    go_wp2_with fail
    have h20 := shash23 (some ⟨w.heap.size, 0, none⟩) cb key.data.toList (by rw [unhide HKL]; omega) wb (unhide HRB)
    rw [unhide HKL] at h20
    refine h20.mono ?_
    clear h20
    rintro e w1 ⟨rfl, hb1⟩
    rw [← unhide HKH]
    have B1 := hide ((unhide HBB).trans (hb1.mono (unhide HBB).size))
    clear hb1 hcv
    have HI0 : Hid (ArrAt ((w1.alloc (.cells (B8 (List.replicate 64 0)).toArray 5)).alloc (.cells (B8 (List.replicate 64 0)).toArray 5)) w1.heap.size 5 (fillV (.int .u8 0) (B8 (keyX K.data.toList 54)) 0)) := by rw [fill_start _ _ (unhide HX1)]; exact (arr_new w1 _ _).alloc _
    have HO0 : Hid (ArrAt ((w1.alloc (.cells (B8 (List.replicate 64 0)).toArray 5)).alloc (.cells (B8 (List.replicate 64 0)).toArray 5)) (w1.heap.size + 1) 5 (fillV (.int .u8 0) (B8 (keyX K.data.toList 92)) 0)) := by
      rw [fill_start _ _ (unhide HX2)]
      have := arr_new (w1.alloc (.cells (B8 (List.replicate 64 0)).toArray 5)) (B8 (List.replicate 64 0)) 5
      rw [show (w1.alloc (.cells (B8 (List.replicate 64 0)).toArray 5)).heap.size = w1.heap.size + 1 from by simp] at this
      exact this
    have HB0 : Hid (Below w.heap.size w ((w1.alloc (.cells (B8 (List.replicate 64 0)).toArray 5)).alloc (.cells (B8 (List.replicate 64 0)).toArray 5))) := ((unhide B1).alloc (unhide B1).size _).alloc (by have := (unhide B1).size; simp <;> omega) _
    obtain ⟨Z, hZ⟩ : ∃ Z, Z = (B8 (List.replicate 64 0)).toArray := ⟨_, rfl⟩
    rw [← hZ] at hmk HI0 HO0 HB0
    clear hZ
    go_wp2_with fail
    have SB1 := hide (unhide B1).size
    go_loopw [7] (fun i wr => ∃ j : Nat, j ≤ 64 ∧ i = .int .i64 j ∧ Hid (ArrAt wr w1.heap.size 5 (fillV (.int .u8 0) (B8 (keyX K.data.toList 54)) j)) ∧ Hid (ArrAt wr (w1.heap.size + 1) 5 (fillV (.int .u8 0) (B8 (keyX K.data.toList 92)) j)) ∧ Hid (Below w.heap.size w wr)) (fun i _ => 64 - (intOf i).toNat)
    case atStart => exact ⟨0, by omega, rfl, HI0, HO0, HB0⟩
    case round =>
      clear HI0 HO0 HB0
      obtain ⟨j, hj, rfl, HIN, HOUT, HB⟩ := hrel
      have hlt0 : (0 : Int) ≤ (j : Int) := by omega
      by_cases hlt : j < 64
      · have hlt' : (j : Int) < 64 := by omega
        have hz : j < (keyZ K.data.toList).length := by rw [unhide HZL]; exact hlt
        obtain ⟨c, hc⟩ : ∃ c, c = (keyZ K.data.toList)[j] := ⟨_, rfl⟩
        have ci : wr.cell? ⟨w1.heap.size, j, none⟩ = some (.int .u8 0) := by rw [(unhide HIN).cell, fillV_at _ _ j (by rw [B8_len, unhide HX1]; exact hlt)]
        have fi := (unhide HIN).frozen j
        have co : wr.cell? ⟨w1.heap.size + 1, j, none⟩ = some (.int .u8 0) := by rw [(unhide HOUT).cell, fillV_at _ _ j (by rw [B8_len, unhide HX2]; exact hlt)]
        have fo := (unhide HOUT).frozen j
        have hx1 : bits .xor .u8 (c.toNat : Int) 54 = ((c ^^^ 54).toNat : Int) := u8_xor c 54
        have hx2 : bits .xor .u8 (c.toNat : Int) 92 = ((c ^^^ 92).toNat : Int) := u8_xor c 92
        have RI : Hid (ArrAt ((wr.setCell ⟨w1.heap.size, j, none⟩ (.int .u8 ((c ^^^ 54).toNat : Int))).setCell ⟨w1.heap.size + 1, j, none⟩ (.int .u8 ((c ^^^ 92).toNat : Int))) w1.heap.size 5 (fillV (.int .u8 0) (B8 (keyX K.data.toList 54)) (j + 1))) := by
          rw [← fillV_set _ _ j (.int .u8 ((c ^^^ 54).toNat : Int)) (by unfold B8; rw [List.getElem?_map, xor_atS _ 54 j hz, ← hc]; rfl)]
          exact ((unhide HIN).set j _).other (by omega) _ _
        have RO : Hid (ArrAt ((wr.setCell ⟨w1.heap.size, j, none⟩ (.int .u8 ((c ^^^ 54).toNat : Int))).setCell ⟨w1.heap.size + 1, j, none⟩ (.int .u8 ((c ^^^ 92).toNat : Int))) (w1.heap.size + 1) 5 (fillV (.int .u8 0) (B8 (keyX K.data.toList 92)) (j + 1))) := by
          rw [← fillV_set _ _ j (.int .u8 ((c ^^^ 92).toNat : Int)) (by unfold B8; rw [List.getElem?_map, xor_atS _ 92 j hz, ← hc]; rfl)]
          exact ((unhide HOUT).other (by omega) _ _).set j _
        have RB := hide (((unhide HB).setCell (p := ⟨w1.heap.size, j, none⟩) (unhide SB1) (.int .u8 ((c ^^^ 54).toNat : Int))).setCell (p := ⟨w1.heap.size + 1, j, none⟩) (Nat.le_succ_of_le (unhide SB1)) (.int .u8 ((c ^^^ 92).toNat : Int)))
        have hne1 : ¬ w1.heap.size = w1.heap.size + 1 := by omega
        have hne2 : ¬ w1.heap.size + 1 = w1.heap.size := by omega
        obtain ⟨y1, hy1⟩ : ∃ y : Int, y = ((c ^^^ 54).toNat : Int) := ⟨_, rfl⟩
        obtain ⟨y2, hy2⟩ : ∃ y : Int, y = ((c ^^^ 92).toNat : Int) := ⟨_, rfl⟩
        rw [← hy1] at hx1 RI RO RB
        rw [← hy2] at hx2 RI RO RB
        by_cases hkey : j < K.size
        · have hck : K[j] = c := by rw [hc]; exact (keyZ_in K j hkey hz).symm
          have hkey' : (j : Int) < (K.size : Int) := by omega
          rw [← hck] at hx1 hx2
          clear hc hz hck hy1 hy2 HIN HOUT HB
          go_wp2_with fail
          go_roundw
          case rel => exact ⟨j + 1, by omega, by go_num, RI, RO, RB⟩
          case measure => simp [intOf]; omega
        · have hck : c = 0 := by rw [hc]; exact keyZ_out K j hkey hz
          have hkey' : ¬ (j : Int) < (K.size : Int) := by omega
          rw [hck, show (((0 : UInt8).toNat : Nat) : Int) = 0 from rfl] at hx1 hx2
          clear hc hz hck hy1 hy2 HIN HOUT HB
          go_wp2_with fail
          go_roundw
          case rel => exact ⟨j + 1, by omega, by go_num, RI, RO, RB⟩
          case measure => simp [intOf]; omega
      · have ej : j = 64 := by omega
        rw [ej, fillV_all _ _ 64 (by rw [B8_len, unhide HX1]; exact Nat.le_refl _)] at HIN
        rw [ej, fillV_all _ _ 64 (by rw [B8_len, unhide HX2]; exact Nat.le_refl _)] at HOUT
        have HO2 := hide (arr_own8 (unhide HIN) (unhide HX1) (by decide))
        have hg2 := (unhide HOUT).lt
        have S2 : Hid (w1.heap.size ≤ wr.heap.size) := by show _ ≤ _; omega
        clear ej HIN
        go_wp2_with (refine Go.Lib.wpList_append_own_string _ rfl (.tmp 39) (.tmp 40) 101 9 rfl w1.heap.size 5 i0 Tryz.underlying101 Tryz.underlying9 hi hz0 hz1 hz2 _ _ _ rfl (unhide HO2) msg rfl (by rw [unhide HX1]; unfold maxLen; omega) (by rw [unhide HX1]; omega) (unhide S2) ?_; intro v3 w3 ho3 hg3 _; have ho3' := own_app (l := keyX K.data.toList 54) (m := msg.data.toList) ho3 (list_size msg); obtain ⟨L3, hL3⟩ : ∃ L, L = keyX K.data.toList 54 ++ msg.data.toList := ⟨_, rfl⟩; rw [← hL3] at ho3'; have HL3 := hide hL3; clear hL3; have B3 := hide ((unhide HB).grown hg3 (unhide HB).size (fun k hk => Nat.le_trans (unhide SB1) ((unhide HO2).lt k hk).1)); have HOUT3 : Hid (ArrAt w3 (w1.heap.size + 1) 5 (B8 (keyX K.data.toList 92))) := (hg3.block _ hg2 (fun e => absurd (Option.some.inj e) (Nat.succ_ne_self _))).trans (unhide HOUT); obtain ⟨a3, c3, rfl, hr3⟩ := own_rowV ho3'; have HR3 := hide (rowV_8 hr3); have hg3z := (unhide HOUT3).lt; clear ho3 hg3 ho3' hr3 HO2 HOUT HB)
        refine (shash23 a3 c3 L3 (by rw [unhide HL3, List.length_append, unhide HX1, list_size]; omega) _ (unhide HR3)).mono ?_
        rintro e w4 ⟨rfl, hb4⟩
        rw [show hashB (shaR L3) = I from by rw [unhide HL3]; exact (unhide HI).symm]
        have B4 := hide ((unhide B3).trans (hb4.mono (unhide B3).size))
        have HOUT4 := (unhide HOUT3).below hb4 hg3z
        have HO5 := hide (arr_own8 HOUT4 (unhide HX2) (by decide))
        have S5 : Hid (w1.heap.size + 1 ≤ w4.heap.size) := Nat.le_of_lt HOUT4.lt
        clear hb4 HR3 HOUT3 HOUT4
        go_wp2_with (refine Go.Lib.wpList_append_own_string _ rfl (.tmp 38) (.tmp 42) 101 9 rfl (w1.heap.size + 1) 5 i0 Tryz.underlying101 Tryz.underlying9 hi hz0 hz1 hz2 _ _ _ rfl (unhide HO5) I rfl (by rw [unhide HX2, unhide HIS]; decide) (by rw [unhide HX2, unhide HIS]; decide) (unhide S5) ?_; intro v6 w6 ho6 hg6 _; have ho6' := own_app (l := keyX K.data.toList 92) (m := I.data.toList) ho6 (list_size I); obtain ⟨L6, hL6⟩ : ∃ L, L = keyX K.data.toList 92 ++ I.data.toList := ⟨_, rfl⟩; rw [← hL6] at ho6'; have HL6 := hide hL6; clear hL6; have B6 := hide ((unhide B4).grown hg6 (unhide B4).size (fun k hk => Nat.le_trans (Nat.le_succ_of_le (unhide SB1)) ((unhide HO5).lt k hk).1)); obtain ⟨a6, c6, rfl, hr6⟩ := own_rowV ho6'; have HR6 := hide (rowV_8 hr6); clear ho6 hg6 ho6' hr6 HO5)
        refine (shash23 a6 c6 L6 (by rw [unhide HL6, List.length_append, unhide HX2, list_size, unhide HIS]; decide) _ (unhide HR6)).mono ?_
        rintro e w7 ⟨rfl, hb7⟩
        have B7 := hide ((unhide B6).trans (hb7.mono (unhide B6).size))
        clear hb7 HR6
        go_wp2_with fail
        go_ret
        rw [unhide HV, ← unhide HL6]
        exact ⟨rfl, unhide B7⟩
  · obtain ⟨K, hK⟩ : ∃ K, K = key := ⟨_, rfl⟩
    have hKK : hmacK key = K := by unfold hmacK; rw [if_neg h64, hK]
    have HKS : Hid (K.size ≤ 64) := by show _ ≤ _; rw [hK]; omega
    have HI : Hid (I = hashB (shaR (keyX K.data.toList 54 ++ msg.data.toList))) := by show _ = _; rw [hI]; unfold hmacIn; rw [hKK]
    have HV : Hid (hmacB key msg = hashB (shaR (keyX K.data.toList 92 ++ I.data.toList))) := by show _ = _; unfold hmacB; rw [hKK, hI]
    have HZL := hide (keyZ_len K.data.toList (by rw [list_size]; exact unhide HKS))
    have HX1 := hide (keyX_len K.data.toList 54 (by rw [list_size]; exact unhide HKS))
    have HX2 := hide (keyX_len K.data.toList 92 (by rw [list_size]; exact unhide HKS))
    have B1 := hide (Below.refl w.heap.size w)
    clear hI hKK
    subst hK
    go_enter Tryz.func80, Tryz.ntmps80
    have HI0 : Hid (ArrAt ((w.alloc (.cells (B8 (List.replicate 64 0)).toArray 5)).alloc (.cells (B8 (List.replicate 64 0)).toArray 5)) w.heap.size 5 (fillV (.int .u8 0) (B8 (keyX K.data.toList 54)) 0)) := by rw [fill_start _ _ (unhide HX1)]; exact (arr_new w _ _).alloc _
    have HO0 : Hid (ArrAt ((w.alloc (.cells (B8 (List.replicate 64 0)).toArray 5)).alloc (.cells (B8 (List.replicate 64 0)).toArray 5)) (w.heap.size + 1) 5 (fillV (.int .u8 0) (B8 (keyX K.data.toList 92)) 0)) := by
      rw [fill_start _ _ (unhide HX2)]
      have := arr_new (w.alloc (.cells (B8 (List.replicate 64 0)).toArray 5)) (B8 (List.replicate 64 0)) 5
      rw [show (w.alloc (.cells (B8 (List.replicate 64 0)).toArray 5)).heap.size = w.heap.size + 1 from by simp] at this
      exact this
    have HB0 : Hid (Below w.heap.size w ((w.alloc (.cells (B8 (List.replicate 64 0)).toArray 5)).alloc (.cells (B8 (List.replicate 64 0)).toArray 5))) := ((unhide B1).alloc (unhide B1).size _).alloc (by have := (unhide B1).size; simp <;> omega) _
    obtain ⟨Z, hZ⟩ : ∃ Z, Z = (B8 (List.replicate 64 0)).toArray := ⟨_, rfl⟩
    rw [← hZ] at hmk HI0 HO0 HB0
    clear hZ
    go_wp2_with fail
    have SB1 := hide (unhide B1).size
    go_loopw [7] (fun i wr => ∃ j : Nat, j ≤ 64 ∧ i = .int .i64 j ∧ Hid (ArrAt wr w.heap.size 5 (fillV (.int .u8 0) (B8 (keyX K.data.toList 54)) j)) ∧ Hid (ArrAt wr (w.heap.size + 1) 5 (fillV (.int .u8 0) (B8 (keyX K.data.toList 92)) j)) ∧ Hid (Below w.heap.size w wr)) (fun i _ => 64 - (intOf i).toNat)
    case atStart => exact ⟨0, by omega, rfl, HI0, HO0, HB0⟩
    case round =>
      clear HI0 HO0 HB0
      obtain ⟨j, hj, rfl, HIN, HOUT, HB⟩ := hrel
      have hlt0 : (0 : Int) ≤ (j : Int) := by omega
      by_cases hlt : j < 64
      · have hlt' : (j : Int) < 64 := by omega
        have hz : j < (keyZ K.data.toList).length := by rw [unhide HZL]; exact hlt
        obtain ⟨c, hc⟩ : ∃ c, c = (keyZ K.data.toList)[j] := ⟨_, rfl⟩
        have ci : wr.cell? ⟨w.heap.size, j, none⟩ = some (.int .u8 0) := by rw [(unhide HIN).cell, fillV_at _ _ j (by rw [B8_len, unhide HX1]; exact hlt)]
        have fi := (unhide HIN).frozen j
        have co : wr.cell? ⟨w.heap.size + 1, j, none⟩ = some (.int .u8 0) := by rw [(unhide HOUT).cell, fillV_at _ _ j (by rw [B8_len, unhide HX2]; exact hlt)]
        have fo := (unhide HOUT).frozen j
        have hx1 : bits .xor .u8 (c.toNat : Int) 54 = ((c ^^^ 54).toNat : Int) := u8_xor c 54
        have hx2 : bits .xor .u8 (c.toNat : Int) 92 = ((c ^^^ 92).toNat : Int) := u8_xor c 92
        have RI : Hid (ArrAt ((wr.setCell ⟨w.heap.size, j, none⟩ (.int .u8 ((c ^^^ 54).toNat : Int))).setCell ⟨w.heap.size + 1, j, none⟩ (.int .u8 ((c ^^^ 92).toNat : Int))) w.heap.size 5 (fillV (.int .u8 0) (B8 (keyX K.data.toList 54)) (j + 1))) := by
          rw [← fillV_set _ _ j (.int .u8 ((c ^^^ 54).toNat : Int)) (by unfold B8; rw [List.getElem?_map, xor_atS _ 54 j hz, ← hc]; rfl)]
          exact ((unhide HIN).set j _).other (by omega) _ _
        have RO : Hid (ArrAt ((wr.setCell ⟨w.heap.size, j, none⟩ (.int .u8 ((c ^^^ 54).toNat : Int))).setCell ⟨w.heap.size + 1, j, none⟩ (.int .u8 ((c ^^^ 92).toNat : Int))) (w.heap.size + 1) 5 (fillV (.int .u8 0) (B8 (keyX K.data.toList 92)) (j + 1))) := by
          rw [← fillV_set _ _ j (.int .u8 ((c ^^^ 92).toNat : Int)) (by unfold B8; rw [List.getElem?_map, xor_atS _ 92 j hz, ← hc]; rfl)]
          exact ((unhide HOUT).other (by omega) _ _).set j _
        have RB := hide (((unhide HB).setCell (p := ⟨w.heap.size, j, none⟩) (unhide SB1) (.int .u8 ((c ^^^ 54).toNat : Int))).setCell (p := ⟨w.heap.size + 1, j, none⟩) (Nat.le_succ_of_le (unhide SB1)) (.int .u8 ((c ^^^ 92).toNat : Int)))
        have hne1 : ¬ w.heap.size = w.heap.size + 1 := by omega
        have hne2 : ¬ w.heap.size + 1 = w.heap.size := by omega
        obtain ⟨y1, hy1⟩ : ∃ y : Int, y = ((c ^^^ 54).toNat : Int) := ⟨_, rfl⟩
        obtain ⟨y2, hy2⟩ : ∃ y : Int, y = ((c ^^^ 92).toNat : Int) := ⟨_, rfl⟩
        rw [← hy1] at hx1 RI RO RB
        rw [← hy2] at hx2 RI RO RB
        by_cases hkey : j < K.size
        · have hck : K[j] = c := by rw [hc]; exact (keyZ_in K j hkey hz).symm
          have hkey' : (j : Int) < (K.size : Int) := by omega
          rw [← hck] at hx1 hx2
          clear hc hz hck hy1 hy2 HIN HOUT HB
          go_wp2_with fail
          go_roundw
          case rel => exact ⟨j + 1, by omega, by go_num, RI, RO, RB⟩
          case measure => simp [intOf]; omega
        · have hck : c = 0 := by rw [hc]; exact keyZ_out K j hkey hz
          have hkey' : ¬ (j : Int) < (K.size : Int) := by omega
          rw [hck, show (((0 : UInt8).toNat : Nat) : Int) = 0 from rfl] at hx1 hx2
          clear hc hz hck hy1 hy2 HIN HOUT HB
          go_wp2_with fail
          go_roundw
          case rel => exact ⟨j + 1, by omega, by go_num, RI, RO, RB⟩
          case measure => simp [intOf]; omega
      · have ej : j = 64 := by omega
        rw [ej, fillV_all _ _ 64 (by rw [B8_len, unhide HX1]; exact Nat.le_refl _)] at HIN
        rw [ej, fillV_all _ _ 64 (by rw [B8_len, unhide HX2]; exact Nat.le_refl _)] at HOUT
        have HO2 := hide (arr_own8 (unhide HIN) (unhide HX1) (by decide))
        have hg2 := (unhide HOUT).lt
        have S2 : Hid (w.heap.size ≤ wr.heap.size) := by show _ ≤ _; omega
        clear ej HIN
        go_wp2_with (refine Go.Lib.wpList_append_own_string _ rfl (.tmp 39) (.tmp 40) 101 9 rfl w.heap.size 5 i0 Tryz.underlying101 Tryz.underlying9 hi hz0 hz1 hz2 _ _ _ rfl (unhide HO2) msg rfl (by rw [unhide HX1]; unfold maxLen; omega) (by rw [unhide HX1]; omega) (unhide S2) ?_; intro v3 w3 ho3 hg3 _; have ho3' := own_app (l := keyX K.data.toList 54) (m := msg.data.toList) ho3 (list_size msg); obtain ⟨L3, hL3⟩ : ∃ L, L = keyX K.data.toList 54 ++ msg.data.toList := ⟨_, rfl⟩; rw [← hL3] at ho3'; have HL3 := hide hL3; clear hL3; have B3 := hide ((unhide HB).grown hg3 (unhide HB).size (fun k hk => Nat.le_trans (unhide SB1) ((unhide HO2).lt k hk).1)); have HOUT3 : Hid (ArrAt w3 (w.heap.size + 1) 5 (B8 (keyX K.data.toList 92))) := (hg3.block _ hg2 (fun e => absurd (Option.some.inj e) (Nat.succ_ne_self _))).trans (unhide HOUT); obtain ⟨a3, c3, rfl, hr3⟩ := own_rowV ho3'; have HR3 := hide (rowV_8 hr3); have hg3z := (unhide HOUT3).lt; clear ho3 hg3 ho3' hr3 HO2 HOUT HB)
        refine (shash23 a3 c3 L3 (by rw [unhide HL3, List.length_append, unhide HX1, list_size]; omega) _ (unhide HR3)).mono ?_
        rintro e w4 ⟨rfl, hb4⟩
        rw [show hashB (shaR L3) = I from by rw [unhide HL3]; exact (unhide HI).symm]
        have B4 := hide ((unhide B3).trans (hb4.mono (unhide B3).size))
        have HOUT4 := (unhide HOUT3).below hb4 hg3z
        have HO5 := hide (arr_own8 HOUT4 (unhide HX2) (by decide))
        have S5 : Hid (w.heap.size + 1 ≤ w4.heap.size) := Nat.le_of_lt HOUT4.lt
        clear hb4 HR3 HOUT3 HOUT4
        go_wp2_with (refine Go.Lib.wpList_append_own_string _ rfl (.tmp 38) (.tmp 42) 101 9 rfl (w.heap.size + 1) 5 i0 Tryz.underlying101 Tryz.underlying9 hi hz0 hz1 hz2 _ _ _ rfl (unhide HO5) I rfl (by rw [unhide HX2, unhide HIS]; decide) (by rw [unhide HX2, unhide HIS]; decide) (unhide S5) ?_; intro v6 w6 ho6 hg6 _; have ho6' := own_app (l := keyX K.data.toList 92) (m := I.data.toList) ho6 (list_size I); obtain ⟨L6, hL6⟩ : ∃ L, L = keyX K.data.toList 92 ++ I.data.toList := ⟨_, rfl⟩; rw [← hL6] at ho6'; have HL6 := hide hL6; clear hL6; have B6 := hide ((unhide B4).grown hg6 (unhide B4).size (fun k hk => Nat.le_trans (Nat.le_succ_of_le (unhide SB1)) ((unhide HO5).lt k hk).1)); obtain ⟨a6, c6, rfl, hr6⟩ := own_rowV ho6'; have HR6 := hide (rowV_8 hr6); clear ho6 hg6 ho6' hr6 HO5)
        refine (shash23 a6 c6 L6 (by rw [unhide HL6, List.length_append, unhide HX2, list_size, unhide HIS]; decide) _ (unhide HR6)).mono ?_
        rintro e w7 ⟨rfl, hb7⟩
        have B7 := hide ((unhide B6).trans (hb7.mono (unhide B6).size))
        clear hb7 HR6
        go_wp2_with fail
        go_ret
        rw [unhide HV, ← unhide HL6]
        exact ⟨rfl, unhide B7⟩
end Go.Proofs.YtmmnoepcklfonaaGreatDoor
