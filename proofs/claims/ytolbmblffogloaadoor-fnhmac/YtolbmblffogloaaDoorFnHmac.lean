/- At every argument that can be read, with the listed variable as the program text lays it, the law FnHmac returns true and leaves its arguments as they were: the tied card. -/
import Derived.Test.YtolbmblffogloaaDoorCards
import Derived.Test.YtolbmblffogloaaDoorTie
import Derived.Test.YtolbmblffogloaaDoorHmacL
import Derived.Test.YtolbmblffogloaaDoorRowInts
import Derived.WalkKit
import Derived.ProofKit
import Derived.OpenShut
import Derived.ShutString
import Derived.ChangeOld
import Derived.Below
import Derived.OpenVars
import Derived.LaidMore
import Derived.Stop.Joined
namespace Go.Proofs.YtolbmblffogloaaDoor
open Go.ChangeShapes Go.WideShapes Go.ChangeAt Go.RowKit
open Go.ChangeMaps (open_string shut_string)
set_option linter.unusedVariables false

set_option maxHeartbeats 2000000 in
set_option maxRecDepth 100000 in
theorem walk (w : World) (a0 : Option Addr) (len0 cap0 : Nat) (l0 : List UInt8) (e0 : l0.length = len0) (w0 : Row8 w a0 l0) (a1 : Option Addr) (len1 cap1 : Nat) (l1 : List UInt8) (e1 : l1.length = len1) (w1 : Row8 w a1 l1) (hT : KIn w) :
    Calls Tryd.prog 3 #[.slice a0 len0 cap0, .slice a1 len1 cap1] w fun e w' => e = .returned (.bool true) ∧ Below w.heap.size w w' := by
  subst e0 e1
  by_cases big0 : 1048576 < l0.length
  · clear w0 w1 hT
    go_enter Tryd.func3, Tryd.ntmps3
    go_wp2_with fail
    go_ret
    exact ⟨rfl, Below.refl _ _⟩
  by_cases big1 : 1048576 < l1.length
  · clear w0 w1 hT
    go_enter Tryd.func3, Tryd.ntmps3
    go_wp2_with fail
    go_ret
    exact ⟨rfl, Below.refl _ _⟩
  have hs0 : l0.length ≤ 1048576 := by omega
  have hs1 : l1.length ≤ 1048576 := by omega
  have HR0 := hide w0
  have HR1 := hide w1
  have HK := hide hT
  clear w0 w1 hT
  go_enter Tryd.func3, Tryd.ntmps3
  go_wp2_with fail
  refine (sbytesOf 90 a0 cap0 l0 (by decide) (by decide) hs0 _ (unhide HR0)).mono ?_
  rintro e w1 ⟨v1, rfl, m1, hm1, ho1, hb1⟩
  have hcv1 := conv_own (P := Tryd.prog) Tryd.underlying22 Tryd.underlying5 Tryd.underlying9 ho1
  obtain ⟨key, hkey⟩ : ∃ s : ByteArray, s = ⟨m1.toArray⟩ := ⟨_, rfl⟩
  have k90 : key.size ≤ 90 := by rw [hkey]; simpa [ByteArray.size] using hm1
  rw [← hkey] at hcv1
  have B1 := hide hb1
  clear ho1 hb1 hkey hm1
  go_wp2_with fail
  refine (sbytesOf 90 a1 cap1 l1 (by decide) (by decide) hs1 _ ((unhide HR1).below (unhide B1))).mono ?_
  rintro e w2 ⟨v2, rfl, m2, hm2, ho2, hb2⟩
  have hcv2 := conv_own (P := Tryd.prog) Tryd.underlying22 Tryd.underlying5 Tryd.underlying9 ho2
  obtain ⟨M, hM⟩ : ∃ s : ByteArray, s = ⟨m2.toArray⟩ := ⟨_, rfl⟩
  have M90 : M.size ≤ 90 := by rw [hM]; simpa [ByteArray.size] using hm2
  rw [← hM] at hcv2
  have B2 := hide ((unhide B1).trans (hb2.mono (unhide B1).size))
  have MS90 := hide M90
  have MS : Hid (M.size ≤ 65536) := by show _ ≤ _; omega
  have KS0 : Hid (key.size ≤ 65536) := by show _ ≤ _; omega
  obtain ⟨H, hH⟩ : ∃ H, H = hmacB key M := ⟨_, rfl⟩
  have HH := hide hH
  have h32 : H.size = 32 := by rw [hH]; exact hmacB_size _ _
  have t32 : ((H.size : Int) != 32) = false := by rw [bne_eq_false_iff_eq]; omega
  have tHH : (H.toList != H.toList) = false := by simp
  obtain ⟨K, hKd⟩ : ∃ K, K = hmacK key := ⟨_, rfl⟩
  have HKS : Hid (K.size ≤ 64) := by rw [hKd]; exact hmacK_size key
  have KS : Hid (K.size ≤ 65536) := Nat.le_trans (unhide HKS) (by decide)
  have HHK : Hid (H = hmacB K M) := by show _ = _; rw [hH, hm_same key M K hKd]
  obtain ⟨I, hI⟩ : ∃ I, I = hmacIn key M.data.toList := ⟨_, rfl⟩
  have HIS : Hid (I.size = 32) := by rw [hI]; exact hash_size _
  have HI : Hid (I = hashB (shaR (keyX K.data.toList 54 ++ M.data.toList))) := by show _ = _; rw [hI, hKd]; rfl
  have HV : Hid (H = hashB (shaR (keyX K.data.toList 92 ++ I.data.toList))) := by show _ = _; rw [hH, hKd, hI]; rfl
  have HZL := hide (keyZ_len K.data.toList (by rw [list_size]; exact unhide HKS))
  have HX1 := hide (keyX_len K.data.toList 54 (by rw [list_size]; exact unhide HKS))
  have HX2 := hide (keyX_len K.data.toList 92 (by rw [list_size]; exact unhide HKS))
  clear ho2 hb2 hM hm2 hH hI hcv1 h32
  go_wp2_with fail
  refine (ihmacO key M H (unhide KS0) (unhide MS) (unhide HH) _ ((unhide HK).below (unhide B2) (unhide HK).pos)).mono ?_
  rintro e w3 ⟨rfl, hb3⟩
  have B3 := hide ((unhide B2).trans (hb3.mono (unhide B2).size))
  clear hb3 hcv2
  go_wp2_with fail
  refine (shmacO key M H (unhide KS0) (unhide MS) (unhide HH) _).mono ?_
  rintro e w4 ⟨rfl, hb4⟩
  have B4 := hide ((unhide B3).trans (hb4.mono (unhide B3).size))
  clear hb4
  by_cases h64 : 64 < key.size
  · have hKk : K = hashB (shaR key.data.toList) := by rw [hKd]; unfold hmacK; rw [if_pos h64]
    have HKk := hide hKk
    clear hKk hKd
    obtain ⟨wb, cb, hcv, hrb, hbb⟩ := to_bytes w4 key
    have HRB := hide hrb
    have HBB := hide ((unhide B4).trans (hbb.mono (unhide B4).size))
    clear hrb hbb
    go_wp2_with fail
    refine (ihashB _ cb key.data.toList key.size K (list_size key) (unhide HKk) (by rw [list_size]; exact unhide KS0) _ (unhide HRB) ((unhide HK).below (unhide HBB) (unhide HK).pos)).mono ?_
    rintro e w5 ⟨rfl, hb5⟩
    have B5 := hide ((unhide HBB).trans (hb5.mono (unhide HBB).size))
    clear hb5 hcv
    go_wp2_with fail
    refine (ihmacO K M H (unhide KS) (unhide MS) (unhide HHK) _ ((unhide HK).below (unhide B5) (unhide HK).pos)).mono ?_
    rintro e w6 ⟨rfl, hb6⟩
    have B6 := hide ((unhide B5).trans (hb6.mono (unhide B5).size))
    clear hb6
    have HI0 : Hid (ArrAt ((w6.alloc (.cells (B8 (List.replicate 64 0)).toArray 5)).alloc (.cells (B8 (List.replicate 64 0)).toArray 5)) w6.heap.size 5 (fillV (.int .u8 0) (B8 (keyX K.data.toList 54)) 0)) := by rw [fill_start _ _ (unhide HX1)]; exact (arr_new w6 _ _).alloc _
    have HO0 : Hid (ArrAt ((w6.alloc (.cells (B8 (List.replicate 64 0)).toArray 5)).alloc (.cells (B8 (List.replicate 64 0)).toArray 5)) (w6.heap.size + 1) 5 (fillV (.int .u8 0) (B8 (keyX K.data.toList 92)) 0)) := by
      rw [fill_start _ _ (unhide HX2)]
      have := arr_new (w6.alloc (.cells (B8 (List.replicate 64 0)).toArray 5)) (B8 (List.replicate 64 0)) 5
      rw [show (w6.alloc (.cells (B8 (List.replicate 64 0)).toArray 5)).heap.size = w6.heap.size + 1 from by simp] at this
      exact this
    have HB0 : Hid (Below w.heap.size w ((w6.alloc (.cells (B8 (List.replicate 64 0)).toArray 5)).alloc (.cells (B8 (List.replicate 64 0)).toArray 5))) := ((unhide B6).alloc (unhide B6).size _).alloc (by have := (unhide B6).size; simp <;> omega) _
    obtain ⟨Z, hZ⟩ : ∃ Z, Z = (B8 (List.replicate 64 0)).toArray := ⟨_, rfl⟩
    have hmk := make64
    rw [← hZ] at hmk HI0 HO0 HB0
    clear hZ
    go_wp2_with fail
    have SB1 := hide (unhide B6).size
    go_loopw [16] (fun i wr => ∃ j : Nat, j ≤ 64 ∧ i = .int .i64 j ∧ Hid (ArrAt wr w6.heap.size 5 (fillV (.int .u8 0) (B8 (keyX K.data.toList 54)) j)) ∧ Hid (ArrAt wr (w6.heap.size + 1) 5 (fillV (.int .u8 0) (B8 (keyX K.data.toList 92)) j)) ∧ Hid (Below w.heap.size w wr)) (fun i _ => 64 - (intOf i).toNat)
    case atStart => exact ⟨0, by omega, rfl, HI0, HO0, HB0⟩
    case round =>
      clear HI0 HO0 HB0 hmk
      obtain ⟨j, hj, rfl, HIN, HOUT, HB⟩ := hrel
      have hlt0 : (0 : Int) ≤ (j : Int) := by omega
      by_cases hlt : j < 64
      · have hlt' : (j : Int) < 64 := by omega
        have hz : j < (keyZ K.data.toList).length := by rw [unhide HZL]; exact hlt
        obtain ⟨c, hc⟩ : ∃ c, c = (keyZ K.data.toList)[j] := ⟨_, rfl⟩
        have ci : wr.cell? ⟨w6.heap.size, j, none⟩ = some (.int .u8 0) := by rw [(unhide HIN).cell, fillV_at _ _ j (by rw [B8_len, unhide HX1]; exact hlt)]
        have fi := (unhide HIN).frozen j
        have co : wr.cell? ⟨w6.heap.size + 1, j, none⟩ = some (.int .u8 0) := by rw [(unhide HOUT).cell, fillV_at _ _ j (by rw [B8_len, unhide HX2]; exact hlt)]
        have fo := (unhide HOUT).frozen j
        have hx1 : bits .xor .u8 (c.toNat : Int) 54 = ((c ^^^ 54).toNat : Int) := u8_xor c 54
        have hx2 : bits .xor .u8 (c.toNat : Int) 92 = ((c ^^^ 92).toNat : Int) := u8_xor c 92
        have RI : Hid (ArrAt ((wr.setCell ⟨w6.heap.size, j, none⟩ (.int .u8 ((c ^^^ 54).toNat : Int))).setCell ⟨w6.heap.size + 1, j, none⟩ (.int .u8 ((c ^^^ 92).toNat : Int))) w6.heap.size 5 (fillV (.int .u8 0) (B8 (keyX K.data.toList 54)) (j + 1))) := by
          rw [← fillV_set _ _ j (.int .u8 ((c ^^^ 54).toNat : Int)) (by unfold B8; rw [List.getElem?_map, xor_atS _ 54 j hz, ← hc]; rfl)]
          exact ((unhide HIN).set j _).other (by omega) _ _
        have RO : Hid (ArrAt ((wr.setCell ⟨w6.heap.size, j, none⟩ (.int .u8 ((c ^^^ 54).toNat : Int))).setCell ⟨w6.heap.size + 1, j, none⟩ (.int .u8 ((c ^^^ 92).toNat : Int))) (w6.heap.size + 1) 5 (fillV (.int .u8 0) (B8 (keyX K.data.toList 92)) (j + 1))) := by
          rw [← fillV_set _ _ j (.int .u8 ((c ^^^ 92).toNat : Int)) (by unfold B8; rw [List.getElem?_map, xor_atS _ 92 j hz, ← hc]; rfl)]
          exact ((unhide HOUT).other (by omega) _ _).set j _
        have RB := hide (((unhide HB).setCell (p := ⟨w6.heap.size, j, none⟩) (unhide SB1) (.int .u8 ((c ^^^ 54).toNat : Int))).setCell (p := ⟨w6.heap.size + 1, j, none⟩) (Nat.le_succ_of_le (unhide SB1)) (.int .u8 ((c ^^^ 92).toNat : Int)))
        have hne1 : ¬ w6.heap.size = w6.heap.size + 1 := by omega
        have hne2 : ¬ w6.heap.size + 1 = w6.heap.size := by omega
        obtain ⟨y1, hy1⟩ : ∃ y : Int, y = ((c ^^^ 54).toNat : Int) := ⟨_, rfl⟩
        obtain ⟨y2, hy2⟩ : ∃ y : Int, y = ((c ^^^ 92).toNat : Int) := ⟨_, rfl⟩
        rw [← hy1] at hx1 RI RO RB
        rw [← hy2] at hx2 RI RO RB
        by_cases hkey : j < K.size
        · have hck : K[j] = c := by rw [hc]; exact (keyZ_in K j hkey hz).symm
          have hkey' : (j : Int) < (K.size : Int) := by omega
          rw [← hck] at hx1 hx2
          clear hc hz hck hy1 hy2 HIN HOUT HB
          go_wp2_with fail
          go_roundw
          case rel => exact ⟨j + 1, by omega, by go_num, RI, RO, RB⟩
          case measure => simp [intOf]; omega
        · have hck : c = 0 := by rw [hc]; exact keyZ_out K j hkey hz
          have hkey' : ¬ (j : Int) < (K.size : Int) := by omega
          rw [hck, show (((0 : UInt8).toNat : Nat) : Int) = 0 from rfl] at hx1 hx2
          clear hc hz hck hy1 hy2 HIN HOUT HB
          go_wp2_with fail
          go_roundw
          case rel => exact ⟨j + 1, by omega, by go_num, RI, RO, RB⟩
          case measure => simp [intOf]; omega
      · have ej : j = 64 := by omega
        rw [ej, fillV_all _ _ 64 (by rw [B8_len, unhide HX1]; exact Nat.le_refl _)] at HIN
        rw [ej, fillV_all _ _ 64 (by rw [B8_len, unhide HX2]; exact Nat.le_refl _)] at HOUT
        have hg2 := (unhide HOUT).lt
        obtain ⟨X1, hX1⟩ : ∃ X : ByteArray, X = ⟨(keyX K.data.toList 54).toArray⟩ := ⟨_, rfl⟩
        obtain ⟨X2, hX2⟩ : ∃ X : ByteArray, X = ⟨(keyX K.data.toList 92).toArray⟩ := ⟨_, rfl⟩
        have v1 := conv_arr (unhide HIN) (unhide HX1)
        have v2 := conv_arr (unhide HOUT) (unhide HX2)
        rw [← hX1] at v1
        rw [← hX2] at v2
        obtain ⟨g1, hg1⟩ : ∃ g, g = w6.heap.size := ⟨_, rfl⟩
        obtain ⟨P1, hP1⟩ : ∃ X : ByteArray, X1 ++ M = X := ⟨_, rfl⟩
        obtain ⟨P2, hP2⟩ : ∃ X : ByteArray, X2 ++ I = X := ⟨_, rfl⟩
        have q1 := fun w' : World => Go.Lib.run_convert_string_bytes w' 9 22 5 P1 Tryd.underlying9 Tryd.underlying22 Tryd.underlying5
        have q2 := fun w' : World => Go.Lib.run_convert_string_bytes w' 9 22 5 P2 Tryd.underlying9 Tryd.underlying22 Tryd.underlying5
        have HP1 : Hid (P1.data.toList = keyX K.data.toList 54 ++ M.data.toList) := by show _ = _; rw [← hP1, hX1, str_cat]
        have HP2 : Hid (P2.data.toList = keyX K.data.toList 92 ++ I.data.toList) := by show _ = _; rw [← hP2, hX2, str_cat]
        have z1 : X1.size = 64 := by rw [hX1]; simp [ByteArray.size]; exact unhide HX1
        have z2 : X2.size = 64 := by rw [hX2]; simp [ByteArray.size]; exact unhide HX2
        have z3 : I.size = 32 := unhide HIS
        have z4 : M.size ≤ 90 := unhide MS90
        have y1 : ((H.toList == H.toList)) = true := by simp
        have hk1 : ¬ 9223372036854775807 < 64 + M.size := by omega
        have hk2 : ¬ 9223372036854775807 < X1.size + M.size := by omega
        have hk3 : ¬ 9223372036854775807 < X2.size + I.size := by omega
        have HXE1 := hide hX1
        have HXE2 := hide hX2
        have HKW := hide ((unhide HK).below (unhide HB) (unhide HK).pos)
        have HKB := hide (kin_bytes (P := P1) (kin_drew (unhide HKW)))
        have K0 := hide (And.intro (conv_arrX (unhide HIN) (unhide HX1) (unhide HXE1)) (conv_arrX (unhide HOUT) (unhide HX2) (unhide HXE2)))
        have K0d := hide (And.intro (conv_arrX (arr_drew (unhide HIN)) (unhide HX1) (unhide HXE1)) (conv_arrX (arr_drew (unhide HOUT)) (unhide HX2) (unhide HXE2)))
        have K1d := hide (And.intro (keep_bytes (P := P1) (unhide HIN) (unhide HX1) (unhide HXE1)) (keep_bytes (P := P1) (unhide HOUT) (unhide HX2) (unhide HXE2)))
        have K1 := hide (And.intro (keep_bytes (P := P1) (arr_drew (unhide HIN)) (unhide HX1) (unhide HXE1)) (keep_bytes (P := P1) (arr_drew (unhide HOUT)) (unhide HX2) (unhide HXE2)))
        clear ej hX1 hX2
        go_wp2_with fail
        refine wp_region_held_drew (S := (fun w' => (convert 22 9 (.slice (some ⟨w6.heap.size, 0, none⟩) 64 64)).run Tryd.prog w' = .ok (.string X1) w' ∧ (convert 22 9 (.slice (some ⟨w6.heap.size + 1, 0, none⟩) 64 64)).run Tryd.prog w' = .ok (.string X2) w')) (by kernel_rfl) (by (try dsimp only); with_reducible exact unhide K0d) (fun hHeld => ?_)
        refine wpAnyH_take (i := 0) (oi := { dst := some 93, op := .move (.tmp 15), type := 22, pos := "laws.go:219", after := #[], guard := none }) (v := ?_) rfl (by kernel_rfl) (by kernel_rfl) (by kernel_rfl) (fun _ _ _ h => h) (Or.inl ⟨by rfl, ?_⟩) (by assumption) ?_
        rotate_left 1
        · (intro w' hSw; (try dsimp only at hSw); go_simp; try with_reducible rfl)
        try simp only [Act.put, List.setIfInBounds_toArray, List.set_cons_zero, List.set_cons_succ]
        refine wpAnyH_take (i := 1) (oi := { dst := some 94, op := .convert 22 9 (.tmp 93), type := 9, pos := "laws.go:219", after := #[{ on := 0, ground := .data }], guard := none }) (v := ?_) rfl (by kernel_rfl) (by kernel_rfl) (by kernel_rfl) (fun _ _ _ h => h) (Or.inl ⟨by rfl, ?_⟩) (by assumption) ?_
        rotate_left 1
        · (intro w' hSw; (try dsimp only at hSw); go_simp; try with_reducible rfl)
        try simp only [Act.put, List.setIfInBounds_toArray, List.set_cons_zero, List.set_cons_succ]
        refine wpAnyH_take (i := 2) (oi := { dst := some 95, op := .move (.tmp 14), type := 22, pos := "laws.go:219", after := #[], guard := none }) (v := ?_) rfl (by kernel_rfl) (by kernel_rfl) (by kernel_rfl) (fun _ _ _ h => h) (Or.inl ⟨by rfl, ?_⟩) (by assumption) ?_
        rotate_left 1
        · (intro w' hSw; (try dsimp only at hSw); go_simp; try with_reducible rfl)
        try simp only [Act.put, List.setIfInBounds_toArray, List.set_cons_zero, List.set_cons_succ]
        refine wpAnyH_take (i := 3) (oi := { dst := some 96, op := .convert 22 9 (.tmp 95), type := 9, pos := "laws.go:219", after := #[{ on := 2, ground := .data }], guard := none }) (v := ?_) rfl (by kernel_rfl) (by kernel_rfl) (by kernel_rfl) (fun _ _ _ h => h) (Or.inl ⟨by rfl, ?_⟩) (by assumption) ?_
        rotate_left 1
        · (intro w' hSw; (try dsimp only at hSw); go_simp; try with_reducible rfl)
        try simp only [Act.put, List.setIfInBounds_toArray, List.set_cons_zero, List.set_cons_succ]
        refine wpAnyH_take (i := 4) (oi := { dst := some 97, op := .move (.tmp 6), type := 9, pos := "laws.go:219", after := #[], guard := none }) (v := ?_) rfl (by kernel_rfl) (by kernel_rfl) (by kernel_rfl) (fun _ _ _ h => h) (Or.inl ⟨by rfl, ?_⟩) (by assumption) ?_
        rotate_left 1
        · (intro w' hSw; (try dsimp only at hSw); go_simp; try with_reducible rfl)
        try simp only [Act.put, List.setIfInBounds_toArray, List.set_cons_zero, List.set_cons_succ]
        refine wpAnyH_take (i := 5) (oi := { dst := some 98, op := .binOp .add 9 (.tmp 96) (.tmp 97) 9, type := 9, pos := "laws.go:219", after := #[{ on := 3, ground := .data }, { on := 4, ground := .data }], guard := none }) (v := ?_) rfl (by kernel_rfl) (by kernel_rfl) (by kernel_rfl) (fun _ _ _ h => h) (Or.inl ⟨by rfl, ?_⟩) (by assumption) ?_
        rotate_left 1
        · (intro w' hSw; (try dsimp only at hSw); go_simp; try with_reducible rfl)
        try simp only [Act.put, List.setIfInBounds_toArray, List.set_cons_zero, List.set_cons_succ]
        refine wpAnyH_ready (rs := [6]) (by kernel_rfl) (by simp) ?_
        refine AllReadyH.cons (o := { dst := some 99, op := .convert 9 22 (.tmp 98), type := 22, pos := "laws.go:219", after := #[{ on := 5, ground := .data }], guard := none }) rfl (fun K hK => ?_) AllReadyH.nil
        go_simp
        refine hK.out _ _ ?_ (fun hHeld2 => ?_)
        · (try dsimp only); with_reducible exact unhide K1
        clear hK K hHeld
        try simp only [Act.put, List.setIfInBounds_toArray, List.set_cons_zero, List.set_cons_succ]
        refine wpAnyH_ready (rs := [7]) (by kernel_rfl) (by simp) ?_
        refine AllReadyH.cons (o := { dst := some 100, op := .call { callee := .value (.func 12), args := #[.tmp 99], argTypes := #[22] }, type := 9, pos := "laws.go:219", after := #[{ on := 6, ground := .data }], guard := none }) rfl (fun K hK => ?_) AllReadyH.nil
        go_simp
        refine (ihashB _ _ P1.data.toList P1.size I (list_size P1) (by rw [unhide HP1]; exact unhide HI) (by rw [unhide HP1, List.length_append, unhide HX1, list_size]; omega) _ (bytes_row wr.drew P1) (unhide HKB)).mono ?_
        rintro e w7 ⟨rfl, hb7⟩
        have a71 := hide (keep_arr hb7 (arr_drew (unhide HIN)))
        have a72 := hide (keep_arr hb7 (arr_drew (unhide HOUT)))
        have K2 := hide (And.intro (conv_arrX (unhide a71) (unhide HX1) (unhide HXE1)) (conv_arrX (unhide a72) (unhide HX2) (unhide HXE2)))
        have B7 : Hid (Below w.heap.size w w7) := below_bytes hb7 (unhide HB).drew
        have HKB7 := hide (kin_bytes (P := P2) ((unhide HK).below (unhide B7) (unhide HK).pos))
        have K3 := hide (And.intro (keep_bytes (P := P2) (unhide a71) (unhide HX1) (unhide HXE1)) (keep_bytes (P := P2) (unhide a72) (unhide HX2) (unhide HXE2)))
        clear hb7
        go_wp2_with fail
        refine hK.out _ _ ?_ (fun hHeld3 => ?_)
        · (try dsimp only); with_reducible exact unhide K2
        clear hK K hHeld2
        try simp only [Act.put, List.setIfInBounds_toArray, List.set_cons_zero, List.set_cons_succ]
        refine wpAnyH_take (i := 8) (oi := { dst := some 101, op := .binOp .add 9 (.tmp 94) (.tmp 100) 9, type := 9, pos := "laws.go:219", after := #[{ on := 1, ground := .data }, { on := 7, ground := .data }], guard := none }) (v := ?_) rfl (by kernel_rfl) (by kernel_rfl) (by kernel_rfl) (fun _ _ _ h => h) (Or.inl ⟨by rfl, ?_⟩) (by assumption) ?_
        rotate_left 1
        · (intro w' hSw; (try dsimp only at hSw); go_simp; try with_reducible rfl)
        try simp only [Act.put, List.setIfInBounds_toArray, List.set_cons_zero, List.set_cons_succ]
        refine wpAnyH_ready (rs := [9]) (by kernel_rfl) (by simp) ?_
        refine AllReadyH.cons (o := { dst := some 102, op := .convert 9 22 (.tmp 101), type := 22, pos := "laws.go:219", after := #[{ on := 8, ground := .data }], guard := none }) rfl (fun K hK => ?_) AllReadyH.nil
        go_simp
        refine hK.out _ _ ?_ (fun hHeld4 => ?_)
        · (try dsimp only); with_reducible exact unhide K3
        clear hK K hHeld3
        try simp only [Act.put, List.setIfInBounds_toArray, List.set_cons_zero, List.set_cons_succ]
        refine wpAnyH_ready (rs := [10]) (by kernel_rfl) (by simp) ?_
        refine AllReadyH.cons (o := { dst := some 103, op := .call { callee := .value (.func 12), args := #[.tmp 102], argTypes := #[22] }, type := 9, pos := "laws.go:219", after := #[{ on := 9, ground := .data }, { on := 7, ground := .chain }], guard := none }) rfl (fun K hK => ?_) AllReadyH.nil
        go_simp
        refine (ihashB _ _ P2.data.toList P2.size H (list_size P2) (by rw [unhide HP2]; exact unhide HV) (by rw [unhide HP2, List.length_append, unhide HX2, list_size]; omega) _ (bytes_row w7 P2) (unhide HKB7)).mono ?_
        rintro e w8 ⟨rfl, hb8⟩
        have K4 := hide (And.intro (conv_arrX (keep_arr hb8 (unhide a71)) (unhide HX1) (unhide HXE1)) (conv_arrX (keep_arr hb8 (unhide a72)) (unhide HX2) (unhide HXE2)))
        have B8' : Hid (Below w.heap.size w w8) := below_bytes hb8 (unhide B7)
        clear hb8
        go_wp2_with fail
        refine hK.out _ _ ?_ (fun hHeld5 => ?_)
        · (try dsimp only); with_reducible exact unhide K4
        clear hK K hHeld4
        try simp only [Act.put, List.setIfInBounds_toArray, List.set_cons_zero, List.set_cons_succ]
        refine wpAnyH_take (i := 11) (oi := { dst := some 18, op := .assign (.tmp 103), type := 9, pos := "laws.go:219", after := #[{ on := 10, ground := .data }, { on := 10, ground := .chain }, { on := 0, ground := .phase }, { on := 1, ground := .phase }, { on := 2, ground := .phase }, { on := 3, ground := .phase }, { on := 4, ground := .phase }, { on := 5, ground := .phase }, { on := 6, ground := .phase }, { on := 7, ground := .phase }, { on := 8, ground := .phase }, { on := 9, ground := .phase }, { on := 10, ground := .phase }], guard := none }) (v := ?_) rfl (by kernel_rfl) (by kernel_rfl) (by kernel_rfl) (fun _ _ _ h => h) (Or.inl ⟨by rfl, ?_⟩) (by assumption) ?_
        rotate_left 1
        · (intro w' hSw; (try dsimp only at hSw); go_simp; try with_reducible rfl)
        try simp only [Act.put, List.setIfInBounds_toArray, List.set_cons_zero, List.set_cons_succ]
        refine wpAnyH_done (by kernel_rfl) ?_ _
        go_wp2_with fail
        go_ret
        exact ⟨rfl, unhide B8'⟩
  · have hKk : K = key := by rw [hKd]; unfold hmacK; rw [if_neg h64]
    clear hKd
    subst hKk
    go_wp2_with fail
    refine (ihmacO K M H (unhide KS) (unhide MS) (unhide HHK) _ ((unhide HK).below (unhide B4) (unhide HK).pos)).mono ?_
    rintro e w6 ⟨rfl, hb6⟩
    have B6 := hide ((unhide B4).trans (hb6.mono (unhide B4).size))
    clear hb6
    have HI0 : Hid (ArrAt ((w6.alloc (.cells (B8 (List.replicate 64 0)).toArray 5)).alloc (.cells (B8 (List.replicate 64 0)).toArray 5)) w6.heap.size 5 (fillV (.int .u8 0) (B8 (keyX K.data.toList 54)) 0)) := by rw [fill_start _ _ (unhide HX1)]; exact (arr_new w6 _ _).alloc _
    have HO0 : Hid (ArrAt ((w6.alloc (.cells (B8 (List.replicate 64 0)).toArray 5)).alloc (.cells (B8 (List.replicate 64 0)).toArray 5)) (w6.heap.size + 1) 5 (fillV (.int .u8 0) (B8 (keyX K.data.toList 92)) 0)) := by
      rw [fill_start _ _ (unhide HX2)]
      have := arr_new (w6.alloc (.cells (B8 (List.replicate 64 0)).toArray 5)) (B8 (List.replicate 64 0)) 5
      rw [show (w6.alloc (.cells (B8 (List.replicate 64 0)).toArray 5)).heap.size = w6.heap.size + 1 from by simp] at this
      exact this
    have HB0 : Hid (Below w.heap.size w ((w6.alloc (.cells (B8 (List.replicate 64 0)).toArray 5)).alloc (.cells (B8 (List.replicate 64 0)).toArray 5))) := ((unhide B6).alloc (unhide B6).size _).alloc (by have := (unhide B6).size; simp <;> omega) _
    obtain ⟨Z, hZ⟩ : ∃ Z, Z = (B8 (List.replicate 64 0)).toArray := ⟨_, rfl⟩
    have hmk := make64
    rw [← hZ] at hmk HI0 HO0 HB0
    clear hZ
    go_wp2_with fail
    have SB1 := hide (unhide B6).size
    go_loopw [16] (fun i wr => ∃ j : Nat, j ≤ 64 ∧ i = .int .i64 j ∧ Hid (ArrAt wr w6.heap.size 5 (fillV (.int .u8 0) (B8 (keyX K.data.toList 54)) j)) ∧ Hid (ArrAt wr (w6.heap.size + 1) 5 (fillV (.int .u8 0) (B8 (keyX K.data.toList 92)) j)) ∧ Hid (Below w.heap.size w wr)) (fun i _ => 64 - (intOf i).toNat)
    case atStart => exact ⟨0, by omega, rfl, HI0, HO0, HB0⟩
    case round =>
      clear HI0 HO0 HB0 hmk
      obtain ⟨j, hj, rfl, HIN, HOUT, HB⟩ := hrel
      have hlt0 : (0 : Int) ≤ (j : Int) := by omega
      by_cases hlt : j < 64
      · have hlt' : (j : Int) < 64 := by omega
        have hz : j < (keyZ K.data.toList).length := by rw [unhide HZL]; exact hlt
        obtain ⟨c, hc⟩ : ∃ c, c = (keyZ K.data.toList)[j] := ⟨_, rfl⟩
        have ci : wr.cell? ⟨w6.heap.size, j, none⟩ = some (.int .u8 0) := by rw [(unhide HIN).cell, fillV_at _ _ j (by rw [B8_len, unhide HX1]; exact hlt)]
        have fi := (unhide HIN).frozen j
        have co : wr.cell? ⟨w6.heap.size + 1, j, none⟩ = some (.int .u8 0) := by rw [(unhide HOUT).cell, fillV_at _ _ j (by rw [B8_len, unhide HX2]; exact hlt)]
        have fo := (unhide HOUT).frozen j
        have hx1 : bits .xor .u8 (c.toNat : Int) 54 = ((c ^^^ 54).toNat : Int) := u8_xor c 54
        have hx2 : bits .xor .u8 (c.toNat : Int) 92 = ((c ^^^ 92).toNat : Int) := u8_xor c 92
        have RI : Hid (ArrAt ((wr.setCell ⟨w6.heap.size, j, none⟩ (.int .u8 ((c ^^^ 54).toNat : Int))).setCell ⟨w6.heap.size + 1, j, none⟩ (.int .u8 ((c ^^^ 92).toNat : Int))) w6.heap.size 5 (fillV (.int .u8 0) (B8 (keyX K.data.toList 54)) (j + 1))) := by
          rw [← fillV_set _ _ j (.int .u8 ((c ^^^ 54).toNat : Int)) (by unfold B8; rw [List.getElem?_map, xor_atS _ 54 j hz, ← hc]; rfl)]
          exact ((unhide HIN).set j _).other (by omega) _ _
        have RO : Hid (ArrAt ((wr.setCell ⟨w6.heap.size, j, none⟩ (.int .u8 ((c ^^^ 54).toNat : Int))).setCell ⟨w6.heap.size + 1, j, none⟩ (.int .u8 ((c ^^^ 92).toNat : Int))) (w6.heap.size + 1) 5 (fillV (.int .u8 0) (B8 (keyX K.data.toList 92)) (j + 1))) := by
          rw [← fillV_set _ _ j (.int .u8 ((c ^^^ 92).toNat : Int)) (by unfold B8; rw [List.getElem?_map, xor_atS _ 92 j hz, ← hc]; rfl)]
          exact ((unhide HOUT).other (by omega) _ _).set j _
        have RB := hide (((unhide HB).setCell (p := ⟨w6.heap.size, j, none⟩) (unhide SB1) (.int .u8 ((c ^^^ 54).toNat : Int))).setCell (p := ⟨w6.heap.size + 1, j, none⟩) (Nat.le_succ_of_le (unhide SB1)) (.int .u8 ((c ^^^ 92).toNat : Int)))
        have hne1 : ¬ w6.heap.size = w6.heap.size + 1 := by omega
        have hne2 : ¬ w6.heap.size + 1 = w6.heap.size := by omega
        obtain ⟨y1, hy1⟩ : ∃ y : Int, y = ((c ^^^ 54).toNat : Int) := ⟨_, rfl⟩
        obtain ⟨y2, hy2⟩ : ∃ y : Int, y = ((c ^^^ 92).toNat : Int) := ⟨_, rfl⟩
        rw [← hy1] at hx1 RI RO RB
        rw [← hy2] at hx2 RI RO RB
        by_cases hkey : j < K.size
        · have hck : K[j] = c := by rw [hc]; exact (keyZ_in K j hkey hz).symm
          have hkey' : (j : Int) < (K.size : Int) := by omega
          rw [← hck] at hx1 hx2
          clear hc hz hck hy1 hy2 HIN HOUT HB
          go_wp2_with fail
          go_roundw
          case rel => exact ⟨j + 1, by omega, by go_num, RI, RO, RB⟩
          case measure => simp [intOf]; omega
        · have hck : c = 0 := by rw [hc]; exact keyZ_out K j hkey hz
          have hkey' : ¬ (j : Int) < (K.size : Int) := by omega
          rw [hck, show (((0 : UInt8).toNat : Nat) : Int) = 0 from rfl] at hx1 hx2
          clear hc hz hck hy1 hy2 HIN HOUT HB
          go_wp2_with fail
          go_roundw
          case rel => exact ⟨j + 1, by omega, by go_num, RI, RO, RB⟩
          case measure => simp [intOf]; omega
      · have ej : j = 64 := by omega
        rw [ej, fillV_all _ _ 64 (by rw [B8_len, unhide HX1]; exact Nat.le_refl _)] at HIN
        rw [ej, fillV_all _ _ 64 (by rw [B8_len, unhide HX2]; exact Nat.le_refl _)] at HOUT
        have hg2 := (unhide HOUT).lt
        obtain ⟨X1, hX1⟩ : ∃ X : ByteArray, X = ⟨(keyX K.data.toList 54).toArray⟩ := ⟨_, rfl⟩
        obtain ⟨X2, hX2⟩ : ∃ X : ByteArray, X = ⟨(keyX K.data.toList 92).toArray⟩ := ⟨_, rfl⟩
        have v1 := conv_arr (unhide HIN) (unhide HX1)
        have v2 := conv_arr (unhide HOUT) (unhide HX2)
        rw [← hX1] at v1
        rw [← hX2] at v2
        obtain ⟨g1, hg1⟩ : ∃ g, g = w6.heap.size := ⟨_, rfl⟩
        obtain ⟨P1, hP1⟩ : ∃ X : ByteArray, X1 ++ M = X := ⟨_, rfl⟩
        obtain ⟨P2, hP2⟩ : ∃ X : ByteArray, X2 ++ I = X := ⟨_, rfl⟩
        have q1 := fun w' : World => Go.Lib.run_convert_string_bytes w' 9 22 5 P1 Tryd.underlying9 Tryd.underlying22 Tryd.underlying5
        have q2 := fun w' : World => Go.Lib.run_convert_string_bytes w' 9 22 5 P2 Tryd.underlying9 Tryd.underlying22 Tryd.underlying5
        have HP1 : Hid (P1.data.toList = keyX K.data.toList 54 ++ M.data.toList) := by show _ = _; rw [← hP1, hX1, str_cat]
        have HP2 : Hid (P2.data.toList = keyX K.data.toList 92 ++ I.data.toList) := by show _ = _; rw [← hP2, hX2, str_cat]
        have z1 : X1.size = 64 := by rw [hX1]; simp [ByteArray.size]; exact unhide HX1
        have z2 : X2.size = 64 := by rw [hX2]; simp [ByteArray.size]; exact unhide HX2
        have z3 : I.size = 32 := unhide HIS
        have z4 : M.size ≤ 90 := unhide MS90
        have y1 : ((H.toList == H.toList)) = true := by simp
        have hk1 : ¬ 9223372036854775807 < 64 + M.size := by omega
        have hk2 : ¬ 9223372036854775807 < X1.size + M.size := by omega
        have hk3 : ¬ 9223372036854775807 < X2.size + I.size := by omega
        have HXE1 := hide hX1
        have HXE2 := hide hX2
        have HKW := hide ((unhide HK).below (unhide HB) (unhide HK).pos)
        have HKB := hide (kin_bytes (P := P1) (kin_drew (unhide HKW)))
        have K0 := hide (And.intro (conv_arrX (unhide HIN) (unhide HX1) (unhide HXE1)) (conv_arrX (unhide HOUT) (unhide HX2) (unhide HXE2)))
        have K0d := hide (And.intro (conv_arrX (arr_drew (unhide HIN)) (unhide HX1) (unhide HXE1)) (conv_arrX (arr_drew (unhide HOUT)) (unhide HX2) (unhide HXE2)))
        have K1d := hide (And.intro (keep_bytes (P := P1) (unhide HIN) (unhide HX1) (unhide HXE1)) (keep_bytes (P := P1) (unhide HOUT) (unhide HX2) (unhide HXE2)))
        have K1 := hide (And.intro (keep_bytes (P := P1) (arr_drew (unhide HIN)) (unhide HX1) (unhide HXE1)) (keep_bytes (P := P1) (arr_drew (unhide HOUT)) (unhide HX2) (unhide HXE2)))
        clear ej hX1 hX2
        go_wp2_with fail
        refine wp_region_held_drew (S := (fun w' => (convert 22 9 (.slice (some ⟨w6.heap.size, 0, none⟩) 64 64)).run Tryd.prog w' = .ok (.string X1) w' ∧ (convert 22 9 (.slice (some ⟨w6.heap.size + 1, 0, none⟩) 64 64)).run Tryd.prog w' = .ok (.string X2) w')) (by kernel_rfl) (by (try dsimp only); with_reducible exact unhide K0d) (fun hHeld => ?_)
        refine wpAnyH_take (i := 0) (oi := { dst := some 93, op := .move (.tmp 15), type := 22, pos := "laws.go:219", after := #[], guard := none }) (v := ?_) rfl (by kernel_rfl) (by kernel_rfl) (by kernel_rfl) (fun _ _ _ h => h) (Or.inl ⟨by rfl, ?_⟩) (by assumption) ?_
        rotate_left 1
        · (intro w' hSw; (try dsimp only at hSw); go_simp; try with_reducible rfl)
        try simp only [Act.put, List.setIfInBounds_toArray, List.set_cons_zero, List.set_cons_succ]
        refine wpAnyH_take (i := 1) (oi := { dst := some 94, op := .convert 22 9 (.tmp 93), type := 9, pos := "laws.go:219", after := #[{ on := 0, ground := .data }], guard := none }) (v := ?_) rfl (by kernel_rfl) (by kernel_rfl) (by kernel_rfl) (fun _ _ _ h => h) (Or.inl ⟨by rfl, ?_⟩) (by assumption) ?_
        rotate_left 1
        · (intro w' hSw; (try dsimp only at hSw); go_simp; try with_reducible rfl)
        try simp only [Act.put, List.setIfInBounds_toArray, List.set_cons_zero, List.set_cons_succ]
        refine wpAnyH_take (i := 2) (oi := { dst := some 95, op := .move (.tmp 14), type := 22, pos := "laws.go:219", after := #[], guard := none }) (v := ?_) rfl (by kernel_rfl) (by kernel_rfl) (by kernel_rfl) (fun _ _ _ h => h) (Or.inl ⟨by rfl, ?_⟩) (by assumption) ?_
        rotate_left 1
        · (intro w' hSw; (try dsimp only at hSw); go_simp; try with_reducible rfl)
        try simp only [Act.put, List.setIfInBounds_toArray, List.set_cons_zero, List.set_cons_succ]
        refine wpAnyH_take (i := 3) (oi := { dst := some 96, op := .convert 22 9 (.tmp 95), type := 9, pos := "laws.go:219", after := #[{ on := 2, ground := .data }], guard := none }) (v := ?_) rfl (by kernel_rfl) (by kernel_rfl) (by kernel_rfl) (fun _ _ _ h => h) (Or.inl ⟨by rfl, ?_⟩) (by assumption) ?_
        rotate_left 1
        · (intro w' hSw; (try dsimp only at hSw); go_simp; try with_reducible rfl)
        try simp only [Act.put, List.setIfInBounds_toArray, List.set_cons_zero, List.set_cons_succ]
        refine wpAnyH_take (i := 4) (oi := { dst := some 97, op := .move (.tmp 6), type := 9, pos := "laws.go:219", after := #[], guard := none }) (v := ?_) rfl (by kernel_rfl) (by kernel_rfl) (by kernel_rfl) (fun _ _ _ h => h) (Or.inl ⟨by rfl, ?_⟩) (by assumption) ?_
        rotate_left 1
        · (intro w' hSw; (try dsimp only at hSw); go_simp; try with_reducible rfl)
        try simp only [Act.put, List.setIfInBounds_toArray, List.set_cons_zero, List.set_cons_succ]
        refine wpAnyH_take (i := 5) (oi := { dst := some 98, op := .binOp .add 9 (.tmp 96) (.tmp 97) 9, type := 9, pos := "laws.go:219", after := #[{ on := 3, ground := .data }, { on := 4, ground := .data }], guard := none }) (v := ?_) rfl (by kernel_rfl) (by kernel_rfl) (by kernel_rfl) (fun _ _ _ h => h) (Or.inl ⟨by rfl, ?_⟩) (by assumption) ?_
        rotate_left 1
        · (intro w' hSw; (try dsimp only at hSw); go_simp; try with_reducible rfl)
        try simp only [Act.put, List.setIfInBounds_toArray, List.set_cons_zero, List.set_cons_succ]
        refine wpAnyH_ready (rs := [6]) (by kernel_rfl) (by simp) ?_
        refine AllReadyH.cons (o := { dst := some 99, op := .convert 9 22 (.tmp 98), type := 22, pos := "laws.go:219", after := #[{ on := 5, ground := .data }], guard := none }) rfl (fun K hK => ?_) AllReadyH.nil
        go_simp
        refine hK.out _ _ ?_ (fun hHeld2 => ?_)
        · (try dsimp only); with_reducible exact unhide K1
        clear hK K hHeld
        try simp only [Act.put, List.setIfInBounds_toArray, List.set_cons_zero, List.set_cons_succ]
        refine wpAnyH_ready (rs := [7]) (by kernel_rfl) (by simp) ?_
        refine AllReadyH.cons (o := { dst := some 100, op := .call { callee := .value (.func 12), args := #[.tmp 99], argTypes := #[22] }, type := 9, pos := "laws.go:219", after := #[{ on := 6, ground := .data }], guard := none }) rfl (fun K hK => ?_) AllReadyH.nil
        go_simp
        refine (ihashB _ _ P1.data.toList P1.size I (list_size P1) (by rw [unhide HP1]; exact unhide HI) (by rw [unhide HP1, List.length_append, unhide HX1, list_size]; omega) _ (bytes_row wr.drew P1) (unhide HKB)).mono ?_
        rintro e w7 ⟨rfl, hb7⟩
        have a71 := hide (keep_arr hb7 (arr_drew (unhide HIN)))
        have a72 := hide (keep_arr hb7 (arr_drew (unhide HOUT)))
        have K2 := hide (And.intro (conv_arrX (unhide a71) (unhide HX1) (unhide HXE1)) (conv_arrX (unhide a72) (unhide HX2) (unhide HXE2)))
        have B7 : Hid (Below w.heap.size w w7) := below_bytes hb7 (unhide HB).drew
        have HKB7 := hide (kin_bytes (P := P2) ((unhide HK).below (unhide B7) (unhide HK).pos))
        have K3 := hide (And.intro (keep_bytes (P := P2) (unhide a71) (unhide HX1) (unhide HXE1)) (keep_bytes (P := P2) (unhide a72) (unhide HX2) (unhide HXE2)))
        clear hb7
        go_wp2_with fail
        refine hK.out _ _ ?_ (fun hHeld3 => ?_)
        · (try dsimp only); with_reducible exact unhide K2
        clear hK K hHeld2
        try simp only [Act.put, List.setIfInBounds_toArray, List.set_cons_zero, List.set_cons_succ]
        refine wpAnyH_take (i := 8) (oi := { dst := some 101, op := .binOp .add 9 (.tmp 94) (.tmp 100) 9, type := 9, pos := "laws.go:219", after := #[{ on := 1, ground := .data }, { on := 7, ground := .data }], guard := none }) (v := ?_) rfl (by kernel_rfl) (by kernel_rfl) (by kernel_rfl) (fun _ _ _ h => h) (Or.inl ⟨by rfl, ?_⟩) (by assumption) ?_
        rotate_left 1
        · (intro w' hSw; (try dsimp only at hSw); go_simp; try with_reducible rfl)
        try simp only [Act.put, List.setIfInBounds_toArray, List.set_cons_zero, List.set_cons_succ]
        refine wpAnyH_ready (rs := [9]) (by kernel_rfl) (by simp) ?_
        refine AllReadyH.cons (o := { dst := some 102, op := .convert 9 22 (.tmp 101), type := 22, pos := "laws.go:219", after := #[{ on := 8, ground := .data }], guard := none }) rfl (fun K hK => ?_) AllReadyH.nil
        go_simp
        refine hK.out _ _ ?_ (fun hHeld4 => ?_)
        · (try dsimp only); with_reducible exact unhide K3
        clear hK K hHeld3
        try simp only [Act.put, List.setIfInBounds_toArray, List.set_cons_zero, List.set_cons_succ]
        refine wpAnyH_ready (rs := [10]) (by kernel_rfl) (by simp) ?_
        refine AllReadyH.cons (o := { dst := some 103, op := .call { callee := .value (.func 12), args := #[.tmp 102], argTypes := #[22] }, type := 9, pos := "laws.go:219", after := #[{ on := 9, ground := .data }, { on := 7, ground := .chain }], guard := none }) rfl (fun K hK => ?_) AllReadyH.nil
        go_simp
        refine (ihashB _ _ P2.data.toList P2.size H (list_size P2) (by rw [unhide HP2]; exact unhide HV) (by rw [unhide HP2, List.length_append, unhide HX2, list_size]; omega) _ (bytes_row w7 P2) (unhide HKB7)).mono ?_
        rintro e w8 ⟨rfl, hb8⟩
        have K4 := hide (And.intro (conv_arrX (keep_arr hb8 (unhide a71)) (unhide HX1) (unhide HXE1)) (conv_arrX (keep_arr hb8 (unhide a72)) (unhide HX2) (unhide HXE2)))
        have B8' : Hid (Below w.heap.size w w8) := below_bytes hb8 (unhide B7)
        clear hb8
        go_wp2_with fail
        refine hK.out _ _ ?_ (fun hHeld5 => ?_)
        · (try dsimp only); with_reducible exact unhide K4
        clear hK K hHeld4
        try simp only [Act.put, List.setIfInBounds_toArray, List.set_cons_zero, List.set_cons_succ]
        refine wpAnyH_take (i := 11) (oi := { dst := some 18, op := .assign (.tmp 103), type := 9, pos := "laws.go:219", after := #[{ on := 10, ground := .data }, { on := 10, ground := .chain }, { on := 0, ground := .phase }, { on := 1, ground := .phase }, { on := 2, ground := .phase }, { on := 3, ground := .phase }, { on := 4, ground := .phase }, { on := 5, ground := .phase }, { on := 6, ground := .phase }, { on := 7, ground := .phase }, { on := 8, ground := .phase }, { on := 9, ground := .phase }, { on := 10, ground := .phase }], guard := none }) (v := ?_) rfl (by kernel_rfl) (by kernel_rfl) (by kernel_rfl) (fun _ _ _ h => h) (Or.inl ⟨by rfl, ?_⟩) (by assumption) ?_
        rotate_left 1
        · (intro w' hSw; (try dsimp only at hSw); go_simp; try with_reducible rfl)
        try simp only [Act.put, List.setIfInBounds_toArray, List.set_cons_zero, List.set_cons_succ]
        refine wpAnyH_done (by kernel_rfl) ?_ _
        go_wp2_with fail
        go_ret
        exact ⟨rfl, unhide B8'⟩

theorem own : ownKnob Tryd.prog.godebug = none := by kernel_rfl
theorem laidOut : laidOutB Tryd.prog = true := by kernel_rfl
theorem door_met (os : Os) (args : Array Value) : laidMetH Tryd.prog Rows.fnHmacRow.laid ((World.doorLaid Tryd.prog 169 os).forCall (fun _ _ => 0) ⟨#[], args, []⟩).memory :=
  laidMetH_of_parts3 (fuel := 8) (laidMet_of_run' 8 (by kernel_rfl) (by kernel_rfl)) (by kernel_rfl) (by kernel_rfl)
set_option maxRecDepth 100000 in
theorem lifted (os : Os) (started : os.Started) (H : Type) (enc : TypeId × Value → H) :
    ReturnsInHanded {} Tryd.checked os 3 .any (fun w args => (Rows.fnHmacSpec.pre enc Tryd.prog Tryd.f3 [] false w args ∧ laidMetH Tryd.prog Rows.fnHmacRow.laid w) ∧ sizedMet enc Tryd.prog Tryd.f3 (OpenSpec.ofChange Rows.fnHmacSpec) false w args)
      (Rows.fnHmacSpec.post enc Tryd.prog Tryd.f3 false true false false) := by
  refine returnsInHanded_of_change_and (C := Tryd.checked) (X := fun w _ => laidMetH Tryd.prog Rows.fnHmacRow.laid w) (fun _ _ _ hh h => h.of_heap hh) own started (by kernel_rfl) Tryd.func3
    (ChangeSpec.witness_shaped (enc := enc) (C := Tryd.checked) (os := os) (X := fun w _ => laidMetH Tryd.prog Rows.fnHmacRow.laid w) false (World.doorLaid Tryd.prog 169 os) #[.slice none 0 0, .slice none 0 0] 8 rfl (World.shaped_of_RefB (by kernel_rfl) (by kernel_rfl)) (by kernel_rfl) (by kernel_rfl) (by kernel_rfl) (door_met os _)) ?_
  intro W base args ds gs before hval0 hW _ _ hL _
  have hval : ∀ (j : Nat) t v, Tryd.f3.params[j]? = some t → args[j]? = some v → Value.okWide Tryd.prog W .any base t v := hval0
  have hW' := hW
  obtain ⟨p, q, hA0, hV, rfl, hfz, hnd⟩ := hW
  have hA : DataW.TrodAll enc Tryd.prog W 0 (fun _ => true) true Tryd.f3.params.toList args.toList ds p := hA0
  rw [Tryd.params3] at hA hval
  obtain ⟨v0, vs0, d0, ds0, p0, q0, hargs, rfl, rfl, h0, r0⟩ := trodAll_cons hA
  obtain ⟨v1, vs1, d1, ds1, p1, q1, rfl, rfl, rfl, h1, r1⟩ := trodAll_cons r0
  obtain ⟨rfl, rfl, rfl⟩ := trodAll_nil r1
  obtain rfl : args = #[v0, v1] := by cases args; simp_all
  obtain ⟨g1, rfl⟩ : ∃ d, gs = [d] := by
    obtain ⟨_, _, _, _, d, _, e, _⟩ := trodVars_one hV
    exact ⟨d, e⟩
  have k0 := h0
  have lt0 : ∀ x ∈ p0, x.block < W.heap.size := by obtain ⟨m, hm⟩ := k0; exact DataW.trod_lt m _ _ _ hm
  have k1 := h1
  have lt1 : ∀ x ∈ p1, x.block < W.heap.size := by obtain ⟨m, hm⟩ := k1; exact DataW.trod_lt m _ _ _ hm
  obtain ⟨a0, len0, cap0, rfl⟩ := okWide_slice Tryd.underlying22 (hval 0 22 v0 rfl rfl)
  obtain ⟨l0, e0, w0⟩ : ∃ l : List UInt8, l.length = len0 ∧ Row8 W a0 l := by
    obtain ⟨fuel, hf⟩ := h0
    rcases open_ints Tryd.underlying22 Tryd.underlying5 (by kernel_rfl) hf with ⟨hcs, _⟩ | ⟨x, l, c, zs, hcs, _, hl, hm, hz, _, hcell, hwz⟩
    · simp [Value.cells] at hcs
      obtain ⟨rfl, rfl, rfl⟩ := hcs
      exact ⟨[], rfl, .inl rfl⟩
    · simp [Value.cells] at hcs
      obtain ⟨rfl, rfl, rfl⟩ := hcs
      exact row8_ints hl (by simpa using hz) hcell hwz
  obtain ⟨a1, len1, cap1, rfl⟩ := okWide_slice Tryd.underlying22 (hval 1 22 v1 rfl rfl)
  obtain ⟨l1, e1, w1⟩ : ∃ l : List UInt8, l.length = len1 ∧ Row8 W a1 l := by
    obtain ⟨fuel, hf⟩ := h1
    rcases open_ints Tryd.underlying22 Tryd.underlying5 (by kernel_rfl) hf with ⟨hcs, _⟩ | ⟨x, l, c, zs, hcs, _, hl, hm, hz, _, hcell, hwz⟩
    · simp [Value.cells] at hcs
      obtain ⟨rfl, rfl, rfl⟩ := hcs
      exact ⟨[], rfl, .inl rfl⟩
    · simp [Value.cells] at hcs
      obtain ⟨rfl, rfl, rfl⟩ := hcs
      exact row8_ints hl (by simpa using hz) hcell hwz
  have hT := rounds_laid2 hL
  clear hA0 hval0
  refine (walk W a0 len0 cap0 l0 e0 w0 a1 len1 cap1 l1 e1 w1 hT).mono fun e W' ⟨he, bel⟩ => ?_
  subst he
  exact ⟨_, rfl, _, _, _, [], _, _, hW', trodAll_mk1 (shut_bool Tryd.underlying4 _), (trodAll_cons_mk (Below.trod laidOut (by kernel_rfl) (of_decide_eq_true (by kernel_rfl)) k0 bel lt0) (trodAll_cons_mk (Below.trod laidOut (by kernel_rfl) (of_decide_eq_true (by kernel_rfl)) k1 bel lt1) trodAll_mk0)), Below.trodVars laidOut bel (by kernel_rfl) hV, bel.frame _, fun h => by cases h⟩

theorem said : Rows.FnHmacSaid :=
  OpenClaim.holds_of_wide 3 Tryd.f3 rfl rfl rfl rfl rfl rfl rfl ⟨rfl, rfl, rfl, rfl, rfl⟩ rfl rfl rfl rfl rfl (by kernel_rfl) Tryd.func3 (by kernel_rfl)
    (of_decide_eq_true (by kernel_rfl)) (by unfold Func.isWrapper; first | (rw [if_pos (by decide +kernel)]; kernel_rfl) | (rw [if_neg (by decide +kernel)]; exact ⟨rfl, rfl⟩))
    (fun os started H enc _ => lifted os started H enc)

theorem card : Rows.FnHmacCardSaid :=
  Claim7.holds_tied_plain_at .later [] _ _ _ _ said (fun _ h => by cases h) (by kernel_rfl) (fun _ h => by cases h) fnHmac_row_tie rfl ⟨rfl, rfl⟩ (by kernel_rfl) rfl
    (fun f fn hf hfn => by
      obtain rfl : f = 3 := Option.some.inj ((show Tryd.prog.funcNamed Tryd.f3.name = some 3 by kernel_rfl).symm.trans hf) |>.symm
      obtain rfl : fn = Tryd.f3 := (Option.some.inj (Tryd.func3.symm.trans hfn)).symm
      exact ⟨by kernel_rfl, fun j t ht => by
        rw [Tryd.params3] at ht
        have hm : t ∈ [22, 22] := by simpa using Array.mem_of_getElem? ht
        have hall : ([22, 22].all fun u => !Tryd.prog.wantsStandIn u) = true := by kernel_rfl
        exact (show Tryd.prog.wantsStandIn t = false by simpa using List.all_eq_true.1 hall t hm)⟩)
    (by kernel_rfl)
#print axioms card
end Go.Proofs.YtolbmblffogloaaDoor
